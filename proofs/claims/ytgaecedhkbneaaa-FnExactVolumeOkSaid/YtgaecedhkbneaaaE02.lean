import Derived.Test.YtgaecedhkbneaaaE01
import Derived.Test.YtgaecedhkbneaaaRows
import Derived.Deep.OwnRows
import Derived.Lib.Hide
import Derived.Deep.QuietTactic
import Derived.BigQuiet
import Derived.Deep.RegionHeld3
namespace Go.Proofs.Ytgaecedhkbneaaa.Mx
open Go.ChangeShapes Go.WideShapes Go.ChangeAt Go.RowKit
set_option linter.unusedVariables false
open Classical in
noncomputable def okB (key : Int) (l : List Int) : Bool := decide (planOk key l)
open Classical in
theorem okB_yes {key : Int} {l : List Int} (h : planOk key l) : okB key l = true := by unfold okB; exact decide_eq_true h
open Classical in
theorem okB_no {key : Int} {l : List Int} (h : ¬ planOk key l) : okB key l = false := by unfold okB; exact decide_eq_false h
theorem box_below (w : World) (o : Obj) : Below w.heap.size w (w.alloc o) := (Below.refl _ _).alloc (Nat.le_refl _) _
theorem Ints.boxed {w : World} {k : IntKind} {A : Option Addr} {l : List Int} (h : Ints w k w.heap.size A l) (o : Obj) : Ints (w.alloc o) k (w.alloc o).heap.size A l := (h.below (box_below w o) (Nat.le_refl _)).more (by simp)
theorem planOk_calls (key : Int) (A : Option Addr) (l : List Int) (cap : Nat) (w : World) (hn : l.length ≤ maxLen) (hcap : l.length ≤ cap) (hA : Ints w .i64 w.heap.size A l) :
    Calls Try.prog 39 #[.agg #[.int .i64 key, .slice A l.length cap]] w fun e w' => e = .returned (.bool (okB key l)) ∧ Below w.heap.size w w' := by
  have hm := hn
  unfold maxLen at hm
  by_cases hk : 1 ≤ key ∧ key ≤ 1000000
  · have C := Lib.hid (fun w => isKey_yes key w hk.1 hk.2)
    by_cases h1 : 1 ≤ l.length
    · by_cases h4 : l.length ≤ 4
      · have g1 : ¬ (l.length : Int) < 1 := by omega
        have g4 : ¬ (4 : Int) < l.length := by omega
        by_cases hc : CountsOk l
        · have D := Lib.hid (fun B w hA => contains_none A l cap B w hn hA hc)
          have E := Lib.hid (fun w hA => sectors_calls key A l cap w h4 hcap hA hc h1)
          have HA := Lib.hid (hA.boxed (.cells #[.int .i64 key, .slice A l.length cap] 32))
          have hB : okB key l = decide (upTo l l.length ≤ 24) := by
            by_cases h : upTo l l.length ≤ 24
            · rw [okB_yes ⟨hk, ⟨h1, h4⟩, hc, h⟩, decide_eq_true h]
            · rw [okB_no (fun h' => h h'.2.2.2), decide_eq_false h]
          rw [hB]
          clear hA hc hk hB hn
          generalize upTo l l.length = s at E
          go_enter Try.func39, Try.ntmps39
          go_wp2_with fail
          refine (C.out _).mono ?_; rintro e w' ⟨rfl, rfl⟩
          go_wp2_with fail
          refine (D.out _ _ HA.out).mono ?_; rintro e w' ⟨rfl, rfl⟩
          go_wp2_with fail
          refine (E.out _ HA.out).mono ?_; rintro e w1 ⟨rfl, b1⟩
          have B1 := Lib.hid ((box_below w _).trans (b1.mono (by simp)))
          clear b1
          go_wp2_with fail
          go_ret
          exact ⟨rfl, B1.out⟩
        · have D := Lib.hid (fun B w hA => contains_some A l cap B w hn hA hc)
          have HA := Lib.hid (hA.boxed (.cells #[.int .i64 key, .slice A l.length cap] 32))
          rw [okB_no (fun h' => hc h'.2.2.1)]
          clear hA hc hk hn
          go_enter Try.func39, Try.ntmps39
          go_wp2_with fail
          refine (C.out _).mono ?_; rintro e w' ⟨rfl, rfl⟩
          go_wp2_with fail
          refine (D.out _ _ HA.out).mono ?_; rintro e w' ⟨rfl, rfl⟩
          go_wp2_with fail
          go_ret
          exact ⟨rfl, box_below w _⟩
      · have g1 : ¬ (l.length : Int) < 1 := by omega
        have g4 : (4 : Int) < l.length := by omega
        rw [okB_no (fun h' => h4 h'.2.1.2)]
        clear hA hk hn
        go_enter Try.func39, Try.ntmps39
        go_wp2_with fail
        refine (C.out _).mono ?_; rintro e w' ⟨rfl, rfl⟩
        go_wp2_with fail
        go_ret
        exact ⟨rfl, box_below w _⟩
    · have g1 : (l.length : Int) < 1 := by omega
      rw [okB_no (fun h' => h1 h'.2.1.1)]
      clear hA hk hn
      go_enter Try.func39, Try.ntmps39
      go_wp2_with fail
      refine (C.out _).mono ?_; rintro e w' ⟨rfl, rfl⟩
      go_wp2_with fail
      go_ret
      exact ⟨rfl, box_below w _⟩
  · have C := Lib.hid (fun w => isKey_no key w (by omega))
    rw [okB_no (fun h' => hk h'.1)]
    clear hA hk hn
    go_enter Try.func39, Try.ntmps39
    go_wp2_with fail
    refine (C.out _).mono ?_; rintro e w' ⟨rfl, rfl⟩
    go_wp2_with fail
    go_ret
    exact ⟨rfl, box_below w _⟩
theorem sectorsOf_calls (key : Int) (A : Option Addr) (l : List Int) (cap : Nat) (w : World) (hn : l.length ≤ maxLen) (hcap : l.length ≤ cap) (hA : Ints w .i64 w.heap.size A l) :
    Calls Try.prog 41 #[.agg #[.int .i64 key, .slice A l.length cap]] w fun e w' => e = .returned (.int .i64 (sectorsOf key l)) ∧ Below w.heap.size w w' := by
  have C := Lib.hid (fun w hA => planOk_calls key A l cap w hn hcap hA)
  have HA := Lib.hid (hA.boxed (.cells #[.int .i64 key, .slice A l.length cap] 32))
  have HB := Lib.hid (CellsAt.new w 32 #[.int .i64 key, .slice A l.length cap])
  by_cases hp : planOk key l
  · rw [okB_yes hp] at C
    rw [sectorsOf_yes hp]
    have D := Lib.hid (fun w hA => sectors_calls key A l cap w hp.2.1.2 hcap hA hp.2.2.1 hp.2.1.1)
    clear hA hp
    go_enter Try.func41, Try.ntmps41
    go_wp2_with fail
    refine (C.out _ HA.out).mono ?_; rintro e w1 ⟨rfl, b1⟩
    have hb := HB.out.below b1 (by simp)
    have c0 : w1.cell? ⟨w.heap.size, 0, none⟩ = some (.int .i64 key) := hb.cell 0
    have c1 : w1.cell? ⟨w.heap.size, 1, none⟩ = some (.slice A l.length cap) := hb.cell 1
    have H1 := Lib.hid ((HA.out.below b1 (Nat.le_refl _)).more b1.size)
    have B1 := Lib.hid ((box_below w _).trans (b1.mono (by simp)))
    clear b1 hb
    go_wp2_with fail
    refine (D.out _ H1.out).mono ?_; rintro e w2 ⟨rfl, b2⟩
    have B2 := Lib.hid (B1.out.trans (b2.mono B1.out.size))
    clear b2
    go_wp2_with fail
    go_ret
    exact ⟨rfl, B2.out⟩
  · rw [okB_no hp] at C
    rw [sectorsOf_no hp]
    clear hA hp
    go_enter Try.func41, Try.ntmps41
    go_wp2_with fail
    refine (C.out _ HA.out).mono ?_; rintro e w1 ⟨rfl, b1⟩
    have B1 := Lib.hid ((box_below w _).trans (b1.mono (by simp)))
    clear b1
    go_wp2_with fail
    go_ret
    exact ⟨rfl, B1.out⟩
theorem asked_no (key x : Int) (f : Value) (A : Option Addr) (l : List Int) (cap : Nat) (w : World) (hn : l.length ≤ maxLen) (hcap : l.length ≤ cap) (hA : Ints w .i64 w.heap.size A l) (hp : ¬ planOk key l) :
    Calls Try.prog 70 #[.agg #[.int .i64 key, .slice A l.length cap], f, .int .i64 x] w fun e w' => e = .returned (.int .i64 (-1)) ∧ Below w.heap.size w w' := by
  have C := Lib.hid (fun w hA => planOk_calls key A l cap w hn hcap hA)
  have HA := Lib.hid (hA.boxed (.cells #[.int .i64 key, .slice A l.length cap] 32))
  rw [okB_no hp] at C
  clear hA hp
  go_enter Try.func70, Try.ntmps70
  go_wp2_with fail
  refine (C.out _ HA.out).mono ?_; rintro e w1 ⟨rfl, b1⟩
  have B1 := Lib.hid ((box_below w _).trans (b1.mono (by simp)))
  clear b1
  go_wp2_with fail
  go_ret
  exact ⟨rfl, B1.out⟩
theorem first_right (key x : Int) (A : Option Addr) (l : List Int) (cap : Nat) (w : World) (hcap : l.length ≤ cap) (hA : Ints w .i64 w.heap.size A l) (hp : planOk key l) :
    Calls Try.prog 71 #[.agg #[.int .i64 key, .slice A l.length cap], .int .i64 x] w fun e w' => e = .returned (.int .i64 (firstOf key l x)) ∧ Below w.heap.size w w' := by
  by_cases h : 0 ≤ x ∧ x < l.length
  · obtain ⟨r, rfl⟩ : ∃ r : Nat, x = r := ⟨x.toNat, by omega⟩
    rw [firstOf_yes hp (by omega)]
    exact first_yes key A l cap r w hp.2.1.2 hcap hA hp.2.2.1 (by omega)
  · rw [firstOf_no (fun h' => h h'.2)]
    exact first_no key x A l.length cap w (by omega) hp.2.1.2
theorem asked_first (key x : Int) (A : Option Addr) (l : List Int) (cap : Nat) (w : World) (hn : l.length ≤ maxLen) (hcap : l.length ≤ cap) (hA : Ints w .i64 w.heap.size A l) (hp : planOk key l) :
    Calls Try.prog 70 #[.agg #[.int .i64 key, .slice A l.length cap], .func (.func 71) #[.agg #[.int .i64 key, .slice A l.length cap]] #[], .int .i64 x] w fun e w' => e = .returned (.int .i64 (firstOf key l x)) ∧ Below w.heap.size w w' := by
  have C := Lib.hid (fun w hA => planOk_calls key A l cap w hn hcap hA)
  have D := Lib.hid (fun w hA => first_right key x A l cap w hcap hA hp)
  have HA := Lib.hid (hA.boxed (.cells #[.int .i64 key, .slice A l.length cap] 32))
  rw [okB_yes hp] at C
  clear hA hp
  generalize firstOf key l x = y at D
  go_enter Try.func70, Try.ntmps70
  go_wp2_with fail
  refine (C.out _ HA.out).mono ?_; rintro e w1 ⟨rfl, b1⟩
  have H1 := Lib.hid ((HA.out.below b1 (Nat.le_refl _)).more b1.size)
  have B1 := Lib.hid ((box_below w _).trans (b1.mono (by simp)))
  clear b1
  go_wp2_with fail
  refine (D.out _ H1.out).mono ?_; rintro e w2 ⟨rfl, b2⟩
  have B2 := Lib.hid (B1.out.trans (b2.mono B1.out.size))
  clear b2
  go_wp2_with fail
  go_ret
  exact ⟨rfl, B2.out⟩
theorem firstOf_calls (key x : Int) (A : Option Addr) (l : List Int) (cap : Nat) (w : World) (hn : l.length ≤ maxLen) (hcap : l.length ≤ cap) (hA : Ints w .i64 w.heap.size A l) :
    Calls Try.prog 62 #[.agg #[.int .i64 key, .slice A l.length cap], .int .i64 x] w fun e w' => e = .returned (.int .i64 (firstOf key l x)) ∧ Below w.heap.size w w' := by
  have hmf : ∀ (fn : Fn) (first cap : Array Value) (w : World), (Instr.makeFunc fn first cap).run Try.prog w = .ok (.func fn first cap) w := fun _ _ _ _ => rfl
  have C0 : (∀ w, Ints w .i64 w.heap.size A l → Calls Try.prog 70 #[.agg #[.int .i64 key, .slice A l.length cap], .func (.func 71) #[.agg #[.int .i64 key, .slice A l.length cap]] #[], .int .i64 x] w fun e w' => e = .returned (.int .i64 (firstOf key l x)) ∧ Below w.heap.size w w') := by
    intro w hA
    by_cases hp : planOk key l
    · exact asked_first key x A l cap w hn hcap hA hp
    · rw [firstOf_no (fun h => hp h.1)]; exact asked_no key x _ A l cap w hn hcap hA hp
  have C := Lib.hid C0
  clear C0
  have HA := Lib.hid (hA.boxed (.cells #[.int .i64 key, .slice A l.length cap] 32))
  clear hA
  generalize firstOf key l x = y at C
  go_enter Try.func62, Try.ntmps62
  go_wp2_with fail
  refine (C.out _ HA.out).mono ?_; rintro e w1 ⟨rfl, b1⟩
  have B1 := Lib.hid ((box_below w _).trans (b1.mono (by simp)))
  clear b1
  go_wp2_with fail
  go_ret
  exact ⟨rfl, B1.out⟩
end Go.Proofs.Ytgaecedhkbneaaa.Mx
namespace Go.Proofs.Ytgaecedhkbneaaa.Mx
open Go.ChangeShapes Go.WideShapes Go.ChangeAt Go.RowKit
set_option linter.unusedVariables false
theorem info_i64 : (Try.prog.info? 2).map (fun i => (i.zero, i.size, i.bytes)) = some (some (.int .i64 0), 1, 8) := by kernel_rfl
theorem toInt64S_calls (A : Option Addr) (l : List Int) (cap : Nat) (w : World) (hn : l.length ≤ 1048576) (hA : Ints w .i64 w.heap.size A l) :
    Calls Try.prog 35 #[.slice A l.length cap] w fun e w' => e = .returned (.slice (some ⟨w.heap.size, 0, none⟩) l.length l.length) ∧ Below w.heap.size w w' ∧ w'.rowIs w.heap.size 2 l.length (fun i => .int .i64 (l.getD i 0)) := by
  have hmk := run_make_row' (P := Try.prog) 22 2 (.int .i64 0) 8 Try.underlying22 info_i64 rfl .i64 .i64 l.length (by omega) (by omega)
  go_enter Try.func35, Try.ntmps35
  go_wp2
  clear hmk
  go_loopw [4] (fun i wr => ∃ k : Nat, k ≤ l.length ∧ i = .int .i64 k ∧ Below w.heap.size w wr ∧ wr.rowIs w.heap.size 2 l.length (fun j => if j < k then .int .i64 (l.getD j 0) else .int .i64 0)) (fun i _ => l.length - (intOf i).toNat)
  case atStart =>
    refine ⟨0, Nat.zero_le _, rfl, (Below.refl _ _).alloc (Nat.le_refl _) _, ?_⟩
    exact (World.rowIs_made w (.int .i64 0) l.length 2).congr (by intro i hi; simp)
  case round =>
    obtain ⟨k, hk, rfl, hbel, hrow⟩ := hrel
    by_cases hlt : k < l.length
    · obtain ⟨b, off, rfl, hb, hc⟩ := (hA.below hbel (Nat.le_refl _)) k hlt
      have ho := hrow.cell hlt
      rw [if_neg (by omega)] at ho
      have hz := hrow.frozen k
      have hst := fun v => hrow.set k (Value.int .i64 v)
      have HST := Lib.hid hst
      have HB := Lib.hid hbel
      clear hst hrow hA hbel
      generalize hv : l.getD k 0 = v at hc
      have HV := Lib.hid hv
      clear hv
      go_wp2
      go_roundw
      case rel =>
        refine ⟨k + 1, by omega, by go_num, HB.out.setCell (Nat.le_refl _) _, (HST.out v).congr ?_⟩
        intro i hi
        by_cases hik : i = k
        · subst hik
          simp only [if_true]
          rw [if_pos (by omega), HV.out]
        · rw [if_neg hik]
          by_cases h3 : i < k
          · rw [if_pos h3, if_pos (by omega)]
          · rw [if_neg h3, if_neg (by omega)]
      case measure => simp [intOf]; omega
    · have hk' : k = l.length := by omega
      have HR := Lib.hid hrow
      have HB := Lib.hid hbel
      clear hrow hA hbel
      go_wp2
      go_ret
      refine ⟨rfl, HB.out, HR.out.congr ?_⟩
      intro i hi
      rw [if_pos (by omega)]
theorem eqInt64S_same (A C : Option Addr) (l : List Int) (cap cap' : Nat) (w : World) (hn : l.length ≤ 1048576) (hA : Ints w .i64 w.heap.size A l) (hC : Ints w .i64 w.heap.size C l) :
    Calls Try.prog 47 #[.slice A l.length cap, .slice C l.length cap'] w fun e w' => e = .returned (.bool true) ∧ Below w.heap.size w w' := by
  go_enter Try.func47, Try.ntmps47
  go_wp2
  go_loopw [5] (fun i wr => ∃ k : Nat, k ≤ l.length ∧ i = .int .i64 k ∧ Below w.heap.size w wr) (fun i _ => l.length - (intOf i).toNat)
  case atStart => exact ⟨0, Nat.zero_le _, rfl, Below.refl _ _⟩
  case round =>
    obtain ⟨k, hk, rfl, hbel⟩ := hrel
    by_cases hlt : k < l.length
    · obtain ⟨b, off, rfl, hb, hc⟩ := (hA.below hbel (Nat.le_refl _)) k hlt
      obtain ⟨b', off', rfl, hb', hc'⟩ := (hC.below hbel (Nat.le_refl _)) k hlt
      have HB := Lib.hid hbel
      clear hA hC hbel
      generalize hv : l.getD k 0 = v at hc hc'
      clear hv
      have hlt' : (k : Int) < l.length := by omega
      have hk0 : (0 : Int) ≤ k := by omega
      go_wp2
      go_quiet (fail)
      go_wp2
      go_roundw
      case rel => exact ⟨k + 1, by omega, by go_num, ⟨HB.out.os, HB.out.tape, HB.out.output, HB.out.size, HB.out.block⟩⟩
      case measure => simp [intOf]; omega
    · have HB := Lib.hid hbel
      clear hA hC hbel
      go_wp2
      go_ret
      exact ⟨rfl, HB.out⟩
end Go.Proofs.Ytgaecedhkbneaaa.Mx
namespace Go.Proofs.Ytgaecedhkbneaaa.Mx
open Go.ChangeShapes Go.WideShapes Go.ChangeAt Go.RowKit
set_option linter.unusedVariables false
theorem lt_of_cell {w : World} {b off : Nat} {s} {v : Value} (h : w.cell? ⟨b, off, s⟩ = some v) : b < w.heap.size := by
  rcases Nat.lt_or_ge b w.heap.size with hlt | hge
  · exact hlt
  · simp [World.cell?, Array.getElem?_eq_none hge] at h
theorem ints_of_row {k : IntKind} {w : World} {x : Addr} {zs : List Int} {len : Nat} (hl : len ≤ zs.length) (hcell : ∀ i, i < zs.length → w.cell? (x.add i) = some (.int k (zs.getD i 0))) :
    Ints w k w.heap.size (some x) (zs.take len) := by
  intro i hi
  have hi' : i < len := by rw [List.length_take] at hi; omega
  have hc := hcell i (by omega)
  obtain ⟨b, off, spot⟩ := x
  have hspot : spot = none := by
    have h0 := hcell 0 (by omega)
    simpa [Addr.add] using World.cell?_spot h0
  subst hspot
  have hg : (zs.take len).getD i 0 = zs.getD i 0 := by
    rw [List.getD_eq_getElem?_getD, List.getD_eq_getElem?_getD, List.getElem?_take, if_pos hi']
  rw [hg]
  have hc' : w.cell? ⟨b, off + i, none⟩ = some (.int k (zs.getD i 0)) := by
    rcases Nat.eq_zero_or_pos i with rfl | hp
    · simpa [Addr.add] using hc
    · have hne : i ≠ 0 := by omega
      simpa [Addr.add, hne] using hc
  exact ⟨b, off, rfl, lt_of_cell hc', hc'⟩
end Go.Proofs.Ytgaecedhkbneaaa.Mx
namespace Go.Proofs.Ytgaecedhkbneaaa.Mx
open Go.ChangeShapes Go.WideShapes Go.ChangeAt Go.RowKit
set_option linter.unusedVariables false
theorem l5Sum_calls (A : Option Addr) (l : List Int) (cap B : Nat) (w : World) (hl : l.length ≤ 4) (hA : Ints w .i64 B A l) (hc : CountsOk l) :
    Calls Try.prog 55 #[.slice A l.length cap] w fun e w' => e = .returned (.int .i64 (upTo l l.length)) ∧ w = w' := by
  go_enter Try.func55, Try.ntmps55
  go_wp2
  go_loop [3, 4] (fun s i => ∃ k : Nat, k ≤ l.length ∧ i = .int .i64 k ∧ s = .int .i64 (upTo l k)) (fun _ i => l.length - (intOf i).toNat)
  case atStart => exact ⟨0, Nat.zero_le _, rfl, by rw [upTo_zero]⟩
  case round =>
    obtain ⟨k, hk, rfl, rfl⟩ := hrel
    by_cases hlt : k < l.length
    · obtain ⟨b, off, rfl, hb, hv⟩ := hA k hlt
      have hlt' : (k : Int) < l.length := by omega
      have hk0 : (0 : Int) ≤ k := by omega
      have HS := Lib.hid (upTo_succ l hlt)
      have hu := upTo_bd hc hk
      have hb := hc k hlt
      clear hA hc
      generalize l.getD k 0 = v at hv hb HS
      generalize upTo l k = s at HS hu
      obtain ⟨v0, v1⟩ := hb
      obtain ⟨u0, u1⟩ := hu
      go_wp2
      go_round
      case rel => exact ⟨k + 1, by omega, by go_num, by rw [HS.out]⟩
      case measure => simp [intOf]; omega
    · obtain rfl : k = l.length := by omega
      clear hA hc
      go_wp2
      go_ret
      exact ⟨rfl, rfl⟩
theorem specPlanOk_counts (key : Int) (A : Option Addr) (l : List Int) (cap : Nat) (w : World) (hk : 1 ≤ key ∧ key ≤ 1000000) (h1 : 1 ≤ l.length) (h4 : l.length ≤ 4) (hA : Ints w .i64 w.heap.size A l) (hc : CountsOk l) :
    Calls Try.prog 32 #[.agg #[.int .i64 key, .slice A l.length cap]] w fun e w' => e = .returned (.bool (okB key l)) ∧ Below w.heap.size w w' := by
  have g1 : ¬ (l.length : Int) < 1 := by omega
  have g4 : ¬ (4 : Int) < l.length := by omega
  have C := Lib.hid (fun w => l1Key_yes key w hk.1 hk.2)
  have hA' := hA.boxed (.cells #[.int .i64 key, .slice A l.length cap] 32)
  have HA := Lib.hid hA'
  have HC := Lib.hid hc
  have D := Lib.hid (fun B w hA => l5Sum_calls A l cap B w h4 hA hc)
  have hB : okB key l = decide (upTo l l.length ≤ 24) := by
    by_cases h : upTo l l.length ≤ 24
    · rw [okB_yes ⟨hk, ⟨h1, h4⟩, hc, h⟩, decide_eq_true h]
    · rw [okB_no (fun h' => h h'.2.2.2), decide_eq_false h]
  rw [hB]
  clear hA hA' hc hk hB
  generalize upTo l l.length = s at D
  go_enter Try.func32, Try.ntmps32
  go_wp2_with fail
  refine (C.out _).mono ?_; rintro e w' ⟨rfl, rfl⟩
  go_wp2_with fail
  go_loop [3] (fun i => ∃ k : Nat, k ≤ l.length ∧ i = .int .i64 k) (fun i => l.length - (intOf i).toNat)
  case atStart => exact ⟨0, Nat.zero_le _, rfl⟩
  case round =>
    obtain ⟨k, hk, rfl⟩ := hrel
    by_cases hlt : k < l.length
    · obtain ⟨b, off, rfl, hb, hv⟩ := HA.out k hlt
      have hb := HC.out k hlt
      have hlt' : (k : Int) < l.length := by omega
      have hk0 : (0 : Int) ≤ k := by omega
      generalize l.getD k 0 = v at hv hb
      have E := Lib.hid (fun w => l1In_yes v 1 8 w hb.1 hb.2)
      go_wp2_with fail
      refine (E.out _).mono ?_; rintro e w' ⟨rfl, rfl⟩
      go_wp2_with fail
      go_round
      case rel => exact ⟨k + 1, by omega, by go_num⟩
      case measure => simp [intOf]; omega
    · obtain rfl : k = l.length := by omega
      go_wp2_with fail
      refine (D.out _ _ HA.out).mono ?_; rintro e w' ⟨rfl, rfl⟩
      go_wp2_with fail
      go_ret
      exact ⟨rfl, box_below w _⟩
theorem specPlanOk_not (key : Int) (A : Option Addr) (l : List Int) (cap : Nat) (w : World) (hk : 1 ≤ key ∧ key ≤ 1000000) (h1 : 1 ≤ l.length) (h4 : l.length ≤ 4) (hA : Ints w .i64 w.heap.size A l) (hc : ¬ CountsOk l) :
    Calls Try.prog 32 #[.agg #[.int .i64 key, .slice A l.length cap]] w fun e w' => e = .returned (.bool (okB key l)) ∧ Below w.heap.size w w' := by
  rw [okB_no (fun h' => hc h'.2.2.1)]
  have g1 : ¬ (l.length : Int) < 1 := by omega
  have g4 : ¬ (4 : Int) < l.length := by omega
  have C := Lib.hid (fun w => l1Key_yes key w hk.1 hk.2)
  have hA' := hA.boxed (.cells #[.int .i64 key, .slice A l.length cap] 32)
  have HA := Lib.hid hA'
  obtain ⟨j, hj, hjv⟩ := not_counts hc
  have HJ := Lib.hid hjv
  clear hA hA' hc hk hjv
  go_enter Try.func32, Try.ntmps32
  go_wp2_with fail
  refine (C.out _).mono ?_; rintro e w' ⟨rfl, rfl⟩
  go_wp2_with fail
  go_loop [3] (fun i => ∃ k : Nat, k ≤ j ∧ i = .int .i64 k) (fun i => l.length - (intOf i).toNat)
  case atStart => exact ⟨0, Nat.zero_le _, rfl⟩
  case round =>
    obtain ⟨k, hk, rfl⟩ := hrel
    have hlt : k < l.length := by omega
    obtain ⟨b, off, rfl, hb, hv⟩ := HA.out k hlt
    have hlt' : (k : Int) < l.length := by omega
    have hk0 : (0 : Int) ≤ k := by omega
    by_cases hbad : l.getD k 0 < 1 ∨ 8 < l.getD k 0
    · have E := Lib.hid (fun w => l1In_no (l.getD k 0) 1 8 w hbad)
      clear hbad HJ
      generalize l.getD k 0 = v at hv E
      go_wp2_with fail
      refine (E.out _).mono ?_; rintro e w' ⟨rfl, rfl⟩
      go_wp2_with fail
      go_ret
      exact ⟨rfl, box_below w _⟩
    · have hkj : k < j := by
        rcases Nat.lt_or_ge k j with h | h
        · exact h
        · obtain rfl : k = j := by omega
          exact absurd HJ.out hbad
      have E := Lib.hid (fun w => l1In_yes (l.getD k 0) 1 8 w (by omega) (by omega))
      clear hbad HJ
      generalize l.getD k 0 = v at hv E
      go_wp2_with fail
      refine (E.out _).mono ?_; rintro e w' ⟨rfl, rfl⟩
      go_wp2_with fail
      go_round
      case rel => exact ⟨k + 1, by omega, by go_num⟩
      case measure => simp [intOf]; omega
theorem specPlanOk_calls (key : Int) (A : Option Addr) (l : List Int) (cap : Nat) (w : World) (hn : l.length ≤ maxLen) (hA : Ints w .i64 w.heap.size A l) :
    Calls Try.prog 32 #[.agg #[.int .i64 key, .slice A l.length cap]] w fun e w' => e = .returned (.bool (okB key l)) ∧ Below w.heap.size w w' := by
  have hm := hn
  unfold maxLen at hm
  by_cases hk : 1 ≤ key ∧ key ≤ 1000000
  · have C := Lib.hid (fun w => l1Key_yes key w hk.1 hk.2)
    by_cases h1 : 1 ≤ l.length
    · by_cases h4 : l.length ≤ 4
      · by_cases hc : CountsOk l
        · exact specPlanOk_counts key A l cap w hk h1 h4 hA hc
        · exact specPlanOk_not key A l cap w hk h1 h4 hA hc
      · have g1 : ¬ (l.length : Int) < 1 := by omega
        have g4 : (4 : Int) < l.length := by omega
        rw [okB_no (fun h' => h4 h'.2.1.2)]
        clear hA hk hn
        go_enter Try.func32, Try.ntmps32
        go_wp2_with fail
        refine (C.out _).mono ?_; rintro e w' ⟨rfl, rfl⟩
        go_wp2_with fail
        go_ret
        exact ⟨rfl, box_below w _⟩
    · have g1 : (l.length : Int) < 1 := by omega
      rw [okB_no (fun h' => h1 h'.2.1.1)]
      clear hA hk hn
      go_enter Try.func32, Try.ntmps32
      go_wp2_with fail
      refine (C.out _).mono ?_; rintro e w' ⟨rfl, rfl⟩
      go_wp2_with fail
      go_ret
      exact ⟨rfl, box_below w _⟩
  · have C := Lib.hid (fun w => l1Key_no key w (by omega))
    rw [okB_no (fun h' => hk h'.1)]
    clear hA hk hn
    go_enter Try.func32, Try.ntmps32
    go_wp2_with fail
    refine (C.out _).mono ?_; rintro e w' ⟨rfl, rfl⟩
    go_wp2_with fail
    go_ret
    exact ⟨rfl, box_below w _⟩
theorem specSectors_calls (key : Int) (A : Option Addr) (l : List Int) (cap : Nat) (w : World) (hn : l.length ≤ maxLen) (hA : Ints w .i64 w.heap.size A l) :
    Calls Try.prog 34 #[.agg #[.int .i64 key, .slice A l.length cap]] w fun e w' => e = .returned (.int .i64 (sectorsOf key l)) ∧ Below w.heap.size w w' := by
  have C := Lib.hid (fun w hA => specPlanOk_calls key A l cap w hn hA)
  have HA := Lib.hid (hA.boxed (.cells #[.int .i64 key, .slice A l.length cap] 32))
  have HB := Lib.hid (CellsAt.new w 32 #[.int .i64 key, .slice A l.length cap])
  by_cases hp : planOk key l
  · rw [okB_yes hp] at C
    rw [sectorsOf_yes hp]
    have D := Lib.hid (fun B w hA => l5Sum_calls A l cap B w hp.2.1.2 hA hp.2.2.1)
    clear hA hp
    go_enter Try.func34, Try.ntmps34
    go_wp2_with fail
    refine (C.out _ HA.out).mono ?_; rintro e w1 ⟨rfl, b1⟩
    have hb := HB.out.below b1 (by simp)
    have c0 : w1.cell? ⟨w.heap.size, 0, none⟩ = some (.int .i64 key) := hb.cell 0
    have c1 : w1.cell? ⟨w.heap.size, 1, none⟩ = some (.slice A l.length cap) := hb.cell 1
    have H1 := Lib.hid ((HA.out.below b1 (Nat.le_refl _)).more b1.size)
    have B1 := Lib.hid ((box_below w _).trans (b1.mono (by simp)))
    clear b1 hb
    go_wp2_with fail
    refine (D.out _ _ H1.out).mono ?_; rintro e w2 ⟨rfl, rfl⟩
    go_wp2_with fail
    go_ret
    exact ⟨rfl, B1.out⟩
  · rw [okB_no hp] at C
    rw [sectorsOf_no hp]
    clear hA hp
    go_enter Try.func34, Try.ntmps34
    go_wp2_with fail
    refine (C.out _ HA.out).mono ?_; rintro e w1 ⟨rfl, b1⟩
    have B1 := Lib.hid ((box_below w _).trans (b1.mono (by simp)))
    clear b1
    go_wp2_with fail
    go_ret
    exact ⟨rfl, B1.out⟩
end Go.Proofs.Ytgaecedhkbneaaa.Mx
namespace Go.Proofs.Ytgaecedhkbneaaa.Mx
open Go.ChangeShapes Go.WideShapes Go.ChangeAt Go.RowKit
set_option linter.unusedVariables false
/-! ### spec.RegionOf -/
end Go.Proofs.Ytgaecedhkbneaaa.Mx

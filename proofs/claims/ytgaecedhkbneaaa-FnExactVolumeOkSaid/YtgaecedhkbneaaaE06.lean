import Derived.Test.YtgaecedhkbneaaaE05
import Derived.Test.YtgaecedhkbneaaaE02
import Derived.Test.YtgaecedhkbneaaaE01
import Derived.Test.YtgaecedhkbneaaaE03
import Derived.Laws.CopyOwn
import Derived.Laws.MakeOwn
import Derived.Test.YtgaecedhkbneaaaE04
import Derived.Deep.RegionHeld3
import Derived.Deep.CutRange
namespace Go.Proofs.Ytgaecedhkbneaaa.Mx
open Go.ChangeShapes Go.WideShapes Go.ChangeAt Go.RowKit
set_option linter.unusedVariables false
noncomputable def volB (key : Int) (l : List Int) (L : List Tru) (M : List Ce) (S : List SlN) (cnt : Int) : Bool :=
  trustsB key l L && (cellsB key l M && (decide (S.length = 2) && (fitB key l (S.getD 0 default).trusts (S.getD 0 default).cells && (fitB key l (S.getD 1 default).trusts (S.getD 1 default).cells && decide (0 ≤ cnt ∧ cnt ≤ 10000)))))
set_option maxRecDepth 20000 in
set_option maxHeartbeats 8000000 in
theorem specVolumeOk_calls (key : Int) (A : Option Addr) (l : List Int) (cap : Nat) (B : Option Addr) (L : List Tru) (tc : Nat) (C : Option Addr) (M : List Ce) (cc : Nat) (E : Option Addr) (S : List SlN) (sc : Nat) (cnt : Int) (w : World)
    (hn : l.length ≤ maxLen) (hA : Ints w .i64 w.heap.size A l) (hL : L.length ≤ 1048576) (hB : Trs w w.heap.size B L) (hM : M.length ≤ 1048576) (hC : Cls w w.heap.size C M) (hS : S.length ≤ 1048576) (hE : Slots w w.heap.size E S) (hF : ∀ i, i < S.length → (S.getD i default).Fits) :
    Calls Try.prog 5 #[.agg #[.int .i64 key, .slice A l.length cap, .slice B L.length tc, .slice C M.length cc, .slice E S.length sc, .int .i64 cnt]] w fun e w' => e = .returned (.bool (volB key l L M S cnt)) ∧ Below w.heap.size w w' := by
  have K0 := Lib.hid (show Kept w [(w.heap.size, 37, #[.int .i64 key, .slice A l.length cap, .slice B L.length tc, .slice C M.length cc, .slice E S.length sc, .int .i64 cnt])] _ from (Kept.refl w).put1 _ _ #[.int .i64 key, .slice A l.length cap, .slice B L.length tc, .slice C M.length cc, .slice E S.length sc, .int .i64 cnt] rfl)
  have TS := Lib.hid (fun (u : World) (hb : Below w.heap.size w u) => l10Trusts_calls key A B l cap L tc u hn ((hA.below hb (Nat.le_refl _)).more hb.size) (by unfold maxLen; omega) ((hB.below hb (Nat.le_refl _)).more hb.size))
  have CL := Lib.hid (fun (u : World) (hb : Below w.heap.size w u) => l11Cells_calls key A C l cap M cc u hn ((hA.below hb (Nat.le_refl _)).more hb.size) (by unfold maxLen; omega) ((hC.below hb (Nat.le_refl _)).more hb.size))
  have FS := Lib.hid (fun (s : SlN) (B : Option Addr) (tc : Nat) (C : Option Addr) (cc : Nat) (hs : s.Fits) (hr : SlR w w.heap.size B tc C cc s) (u : World) (hb : Below w.heap.size w u) =>
    l12Slot_calls key A l cap s.count B s.trusts tc s.mac C s.cells cc u hn ((hA.below hb (Nat.le_refl _)).more hb.size) hs.1 hs.2.1 ((hr.2.below hb (Nat.le_refl _)).more hb.size))
  have IN := Lib.hid (fun (u : World) => l1In_b cnt 0 10000 _ u rfl)
  have HE := Lib.hid hE
  have HF := Lib.hid hF
  clear hA hB hC hE hF hn
  unfold volB
  generalize trustsB key l L = ts at TS ⊢
  generalize cellsB key l M = cs at CL ⊢
  generalize decide (0 ≤ cnt ∧ cnt ≤ 10000) = ic at IN ⊢
  cases ts with
  | false =>
    rw [Bool.false_and]
    clear CL FS IN
    go_enter Try.func5, Try.ntmps5
    go_upto_region 1 with fail
    refine wp_region_class (C := fun u => Kept w [(w.heap.size, 37, #[.int .i64 key, .slice A l.length cap, .slice B L.length tc, .slice C M.length cc, .slice E S.length sc, .int .i64 cnt])] u) (by kernel_rfl) (by kernel_rfl) (K0.out).drew ?_
    iterate 42 (first
      | go_big_quiet_skip
      | (go_big_quiet_want
         go_big_quiet_op
         first
           | go_big_quiet_on
           | (apply Exists.intro
              refine ⟨fun u hu => ?_, ?_⟩
              · first
                  | with_reducible rfl
                  | (go_at_call 13; exact (TS.out u hu.1).mono fun e w' h => ⟨h.1, hu.below h.2⟩)
                  | (obtain ⟨kc0, kf0, -⟩ := hu.rd; go_simp; first | done | with_reducible rfl)
              go_big_quiet_on)))
    refine wpQuiet_nil ?_
    intro uq hq
    go_wp2_with fail
    go_ret
    exact ⟨rfl, hq.1⟩
  | true =>
    rw [Bool.true_and]
    cases cs with
    | false =>
      rw [Bool.false_and]
      clear FS IN
      go_enter Try.func5, Try.ntmps5
      go_upto_region 1 with fail
      refine wp_region_class (C := fun u => Kept w [(w.heap.size, 37, #[.int .i64 key, .slice A l.length cap, .slice B L.length tc, .slice C M.length cc, .slice E S.length sc, .int .i64 cnt])] u) (by kernel_rfl) (by kernel_rfl) (K0.out).drew ?_
      iterate 42 (first
        | go_big_quiet_skip
        | (go_big_quiet_want
           go_big_quiet_op
           first
             | go_big_quiet_on
             | (apply Exists.intro
                refine ⟨fun u hu => ?_, ?_⟩
                · first
                    | with_reducible rfl
                    | (go_at_call 13; exact (TS.out u hu.1).mono fun e w' h => ⟨h.1, hu.below h.2⟩)
                    | (go_at_call 14; exact (CL.out u hu.1).mono fun e w' h => ⟨h.1, hu.below h.2⟩)
                    | (obtain ⟨kc0, kf0, -⟩ := hu.rd; go_simp; first | done | with_reducible rfl)
                go_big_quiet_on)))
      refine wpQuiet_nil ?_
      intro uq hq
      go_wp2_with fail
      go_ret
      exact ⟨rfl, hq.1⟩
    | true =>
      rw [Bool.true_and]
      by_cases h2 : S.length = 2
      · rw [decide_eq_true h2, Bool.true_and]
        obtain ⟨b, off, e0, hb, B0, tc0, C0, cc0, c0, c1, c2, c3, hr0⟩ := HE.out 0 (by omega)
        obtain ⟨b', off', e1, hb', B1, tc1, C1, cc1, c4, c5, c6, c7, hr1⟩ := HE.out 1 (by omega)
        rw [e0] at e1
        simp only [Option.some.injEq, Addr.mk.injEq, and_true] at e1
        obtain ⟨rfl, rfl⟩ := e1
        subst e0
        have F0 := Lib.hid (FS.out _ B0 tc0 C0 cc0 (HF.out 0 (by omega)) hr0)
        have F1 := Lib.hid (FS.out _ B1 tc1 C1 cc1 (HF.out 1 (by omega)) hr1)
        clear hr0 hr1 FS HE HF hb'
        simp only [Nat.zero_mul, Nat.add_zero, Nat.one_mul] at c0 c1 c2 c3 c4 c5 c6 c7
        rw [show off + 4 + 1 = off + 5 by omega] at c5
        rw [show off + 4 + 2 = off + 6 by omega] at c6
        rw [show off + 4 + 3 = off + 7 by omega] at c7
        generalize fitB key l (S.getD 0 default).trusts (S.getD 0 default).cells = f0 at F0 ⊢
        generalize fitB key l (S.getD 1 default).trusts (S.getD 1 default).cells = f1 at F1 ⊢
        generalize (S.getD 0 default).trusts.length = n0 at c1 F0
        generalize (S.getD 0 default).cells.length = n1 at c3 F0
        generalize (S.getD 1 default).trusts.length = n2 at c5 F1
        generalize (S.getD 1 default).cells.length = n3 at c7 F1
        generalize (S.getD 0 default).count = m0 at c0 F0
        generalize (S.getD 0 default).mac = m1 at c2 F0
        generalize (S.getD 1 default).count = m2 at c4 F1
        generalize (S.getD 1 default).mac = m3 at c6 F1
        have e2 : ((S.length : Int) == 2) = true := beq_iff_eq.2 (by omega)
        have e3 : (S.length == 2) = true := beq_iff_eq.2 h2
        have l0 : (0 : Int) < S.length := by omega
        have l1 : (1 : Int) < S.length := by omega
        have l2 : 0 < S.length := by omega
        have l3 : 1 < S.length := by omega
        clear h2
        cases f0 with
        | false =>
          rw [Bool.false_and]
          clear IN F1
          go_enter Try.func5, Try.ntmps5
          go_upto_region 1 with fail
          refine wp_region_class (C := fun u => Kept w [(w.heap.size, 37, #[.int .i64 key, .slice A l.length cap, .slice B L.length tc, .slice C M.length cc, .slice (some ⟨b, off, none⟩) S.length sc, .int .i64 cnt])] u) (by kernel_rfl) (by kernel_rfl) (K0.out).drew ?_
          iterate 42 (first
            | go_big_quiet_skip
            | (go_big_quiet_want
               go_big_quiet_op
               first
                 | go_big_quiet_on
                 | (apply Exists.intro
                    refine ⟨fun u hu => ?_, ?_⟩
                    · first
                        | with_reducible rfl
                        | (go_at_call 13; exact (TS.out u hu.1).mono fun e w' h => ⟨h.1, hu.below h.2⟩)
                        | (go_at_call 14; exact (CL.out u hu.1).mono fun e w' h => ⟨h.1, hu.below h.2⟩)
                        | (go_at_call 15; exact (F0.out u hu.1).mono fun e w' h => ⟨h.1, hu.below h.2⟩)
                        | (obtain ⟨kc0, kf0, -⟩ := hu.rd; have d0 := (hu.1.cell (p := ⟨b, off, none⟩) hb).trans c0; have d1 := (hu.1.cell (p := ⟨b, off + 1, none⟩) hb).trans c1; have d2 := (hu.1.cell (p := ⟨b, off + 2, none⟩) hb).trans c2; have d3 := (hu.1.cell (p := ⟨b, off + 3, none⟩) hb).trans c3; have d4 := (hu.1.cell (p := ⟨b, off + 4, none⟩) hb).trans c4; have d5 := (hu.1.cell (p := ⟨b, off + 5, none⟩) hb).trans c5; have d6 := (hu.1.cell (p := ⟨b, off + 6, none⟩) hb).trans c6; have d7 := (hu.1.cell (p := ⟨b, off + 7, none⟩) hb).trans c7; go_simp; first | done | with_reducible rfl)
                    go_big_quiet_on)))
          refine wpQuiet_nil ?_
          intro uq hq
          go_wp2_with fail
          go_ret
          exact ⟨rfl, hq.1⟩
        | true =>
          rw [Bool.true_and]
          cases f1 with
          | false =>
            rw [Bool.false_and]
            clear IN
            go_enter Try.func5, Try.ntmps5
            go_upto_region 1 with fail
            refine wp_region_class (C := fun u => Kept w [(w.heap.size, 37, #[.int .i64 key, .slice A l.length cap, .slice B L.length tc, .slice C M.length cc, .slice (some ⟨b, off, none⟩) S.length sc, .int .i64 cnt])] u) (by kernel_rfl) (by kernel_rfl) (K0.out).drew ?_
            iterate 26 (first
              | go_big_quiet_skip
              | (go_big_quiet_want
                 go_big_quiet_op
                 first
                   | go_big_quiet_on
                   | (apply Exists.intro
                      refine ⟨fun u hu => ?_, ?_⟩
                      · first
                          | with_reducible rfl
                          | (go_at_call 13; exact (TS.out u hu.1).mono fun e w' h => ⟨h.1, hu.below h.2⟩)
                          | (go_at_call 14; exact (CL.out u hu.1).mono fun e w' h => ⟨h.1, hu.below h.2⟩)
                          | (go_at_call 15; exact (F0.out u hu.1).mono fun e w' h => ⟨h.1, hu.below h.2⟩)
                          | (obtain ⟨kc0, kf0, -⟩ := hu.rd; have d0 := (hu.1.cell (p := ⟨b, off, none⟩) hb).trans c0; have d1 := (hu.1.cell (p := ⟨b, off + 1, none⟩) hb).trans c1; have d2 := (hu.1.cell (p := ⟨b, off + 2, none⟩) hb).trans c2; have d3 := (hu.1.cell (p := ⟨b, off + 3, none⟩) hb).trans c3; have d4 := (hu.1.cell (p := ⟨b, off + 4, none⟩) hb).trans c4; have d5 := (hu.1.cell (p := ⟨b, off + 5, none⟩) hb).trans c5; have d6 := (hu.1.cell (p := ⟨b, off + 6, none⟩) hb).trans c6; have d7 := (hu.1.cell (p := ⟨b, off + 7, none⟩) hb).trans c7; go_simp; first | done | with_reducible rfl)
                      go_big_quiet_on)))
            iterate 16 (first
              | go_big_quiet_skip
              | (go_big_quiet_want
                 go_big_quiet_op
                 first
                   | go_big_quiet_on
                   | (apply Exists.intro
                      refine ⟨fun u hu => ?_, ?_⟩
                      · first
                          | with_reducible rfl
                          | (go_at_call 15; exact (F1.out u hu.1).mono fun e w' h => ⟨h.1, hu.below h.2⟩)
                          | (obtain ⟨kc0, kf0, -⟩ := hu.rd; have d0 := (hu.1.cell (p := ⟨b, off, none⟩) hb).trans c0; have d1 := (hu.1.cell (p := ⟨b, off + 1, none⟩) hb).trans c1; have d2 := (hu.1.cell (p := ⟨b, off + 2, none⟩) hb).trans c2; have d3 := (hu.1.cell (p := ⟨b, off + 3, none⟩) hb).trans c3; have d4 := (hu.1.cell (p := ⟨b, off + 4, none⟩) hb).trans c4; have d5 := (hu.1.cell (p := ⟨b, off + 5, none⟩) hb).trans c5; have d6 := (hu.1.cell (p := ⟨b, off + 6, none⟩) hb).trans c6; have d7 := (hu.1.cell (p := ⟨b, off + 7, none⟩) hb).trans c7; go_simp; first | done | with_reducible rfl)
                      go_big_quiet_on)))
            refine wpQuiet_nil ?_
            intro uq hq
            go_wp2_with fail
            go_ret
            exact ⟨rfl, hq.1⟩
          | true =>
            rw [Bool.true_and]
            go_enter Try.func5, Try.ntmps5
            go_upto_region 1 with fail
            refine wp_region_class (C := fun u => Kept w [(w.heap.size, 37, #[.int .i64 key, .slice A l.length cap, .slice B L.length tc, .slice C M.length cc, .slice (some ⟨b, off, none⟩) S.length sc, .int .i64 cnt])] u) (by kernel_rfl) (by kernel_rfl) (K0.out).drew ?_
            iterate 26 (first
              | go_big_quiet_skip
              | (go_big_quiet_want
                 go_big_quiet_op
                 first
                   | go_big_quiet_on
                   | (apply Exists.intro
                      refine ⟨fun u hu => ?_, ?_⟩
                      · first
                          | with_reducible rfl
                          | (go_at_call 13; exact (TS.out u hu.1).mono fun e w' h => ⟨h.1, hu.below h.2⟩)
                          | (go_at_call 14; exact (CL.out u hu.1).mono fun e w' h => ⟨h.1, hu.below h.2⟩)
                          | (go_at_call 15; exact (F0.out u hu.1).mono fun e w' h => ⟨h.1, hu.below h.2⟩)
                          | (obtain ⟨kc0, kf0, -⟩ := hu.rd; have d0 := (hu.1.cell (p := ⟨b, off, none⟩) hb).trans c0; have d1 := (hu.1.cell (p := ⟨b, off + 1, none⟩) hb).trans c1; have d2 := (hu.1.cell (p := ⟨b, off + 2, none⟩) hb).trans c2; have d3 := (hu.1.cell (p := ⟨b, off + 3, none⟩) hb).trans c3; have d4 := (hu.1.cell (p := ⟨b, off + 4, none⟩) hb).trans c4; have d5 := (hu.1.cell (p := ⟨b, off + 5, none⟩) hb).trans c5; have d6 := (hu.1.cell (p := ⟨b, off + 6, none⟩) hb).trans c6; have d7 := (hu.1.cell (p := ⟨b, off + 7, none⟩) hb).trans c7; go_simp; first | done | with_reducible rfl)
                      go_big_quiet_on)))
            iterate 16 (first
              | go_big_quiet_skip
              | (go_big_quiet_want
                 go_big_quiet_op
                 first
                   | go_big_quiet_on
                   | (apply Exists.intro
                      refine ⟨fun u hu => ?_, ?_⟩
                      · first
                          | with_reducible rfl
                          | (go_at_call 15; exact (F1.out u hu.1).mono fun e w' h => ⟨h.1, hu.below h.2⟩)
                          | (go_at_call 16; exact class_same hu (IN.out u))
                          | (obtain ⟨kc0, kf0, -⟩ := hu.rd; have d0 := (hu.1.cell (p := ⟨b, off, none⟩) hb).trans c0; have d1 := (hu.1.cell (p := ⟨b, off + 1, none⟩) hb).trans c1; have d2 := (hu.1.cell (p := ⟨b, off + 2, none⟩) hb).trans c2; have d3 := (hu.1.cell (p := ⟨b, off + 3, none⟩) hb).trans c3; have d4 := (hu.1.cell (p := ⟨b, off + 4, none⟩) hb).trans c4; have d5 := (hu.1.cell (p := ⟨b, off + 5, none⟩) hb).trans c5; have d6 := (hu.1.cell (p := ⟨b, off + 6, none⟩) hb).trans c6; have d7 := (hu.1.cell (p := ⟨b, off + 7, none⟩) hb).trans c7; go_simp; first | done | with_reducible rfl)
                      go_big_quiet_on)))
            refine wpQuiet_nil ?_
            intro uq hq
            go_wp2_with fail
            go_ret
            exact ⟨rfl, hq.1⟩
      · rw [decide_eq_false h2, Bool.false_and]
        have e2 : ((S.length : Int) == 2) = false := beq_false_of_ne (by omega)
        have e3 : (S.length == 2) = false := beq_false_of_ne h2
        clear h2 FS IN
        go_enter Try.func5, Try.ntmps5
        go_upto_region 1 with fail
        refine wp_region_class (C := fun u => Kept w [(w.heap.size, 37, #[.int .i64 key, .slice A l.length cap, .slice B L.length tc, .slice C M.length cc, .slice E S.length sc, .int .i64 cnt])] u) (by kernel_rfl) (by kernel_rfl) (K0.out).drew ?_
        iterate 42 (first
          | go_big_quiet_skip
          | (go_big_quiet_want
             go_big_quiet_op
             first
               | go_big_quiet_on
               | (apply Exists.intro
                  refine ⟨fun u hu => ?_, ?_⟩
                  · first
                      | with_reducible rfl
                      | (go_at_call 13; exact (TS.out u hu.1).mono fun e w' h => ⟨h.1, hu.below h.2⟩)
                      | (go_at_call 14; exact (CL.out u hu.1).mono fun e w' h => ⟨h.1, hu.below h.2⟩)
                      | (obtain ⟨kc0, kf0, -⟩ := hu.rd; go_simp; first | done | with_reducible rfl)
                  go_big_quiet_on)))
        refine wpQuiet_nil ?_
        intro uq hq
        go_wp2_with fail
        go_ret
        exact ⟨rfl, hq.1⟩
end Go.Proofs.Ytgaecedhkbneaaa.Mx
namespace Go.Proofs.Ytgaecedhkbneaaa.Mx
open Go.ChangeShapes Go.WideShapes Go.ChangeAt Go.RowKit
set_option linter.unusedVariables false
noncomputable def VolG.okB (x : VolG) : Bool := volB x.key x.counts x.trusts x.cells x.slots x.count
def VolG.Int64 (x : VolG) : Prop := TrusI x.trusts ∧ (∀ i, i < x.slots.length → (x.slots.getD i default).Fits ∧ I64 (x.slots.getD i default).mac) ∧ I64 x.count
theorem specVolumeOk_G (x : VolG) (v : Value) (w : World) (hx : x.Short) (hi : x.Int64) (h : RdG w w.heap.size x v) :
    Calls Try.prog 5 #[v] w fun e w' => e = .returned (.bool x.okB) ∧ Below w.heap.size w w' := by
  obtain ⟨A, c, B, d, C, e, E, s, rfl, i1, i2, i3, i4, -⟩ := h
  exact specVolumeOk_calls x.key A x.counts c B x.trusts d C x.cells e E x.slots s x.count w (by have := hx.1; unfold maxLen; omega) i1 hx.2.1 i2 hx.2.2.1 i3 hx.2.2.2.1 i4 (fun i h => (hi.2.1 i h).1)
end Go.Proofs.Ytgaecedhkbneaaa.Mx
namespace Go.Proofs.Ytgaecedhkbneaaa.Mx
open Go.ChangeShapes Go.WideShapes Go.ChangeAt Go.RowKit
set_option linter.unusedVariables false
theorem szInt64S_no (A : Option Addr) (n cap : Nat) (w : World) (hn : n ≤ maxLen) (h : 1048576 < n) :
    Calls Try.prog 29 #[.slice A n cap, .int .i64 1048576] w fun e w' => e = .returned (.int .i64 (-1)) ∧ w = w' := by
  unfold maxLen at hn
  have hs : (1048576 : Int) - n < 0 := by omega
  go_enter Try.func29, Try.ntmps29
  go_wp2
  go_ret
  exact ⟨rfl, rfl⟩
theorem szInt64S_yes (A : Option Addr) (n cap : Nat) (w : World) (h : n ≤ 1048576) :
    Calls Try.prog 29 #[.slice A n cap, .int .i64 1048576] w fun e w' => e = .returned (.int .i64 (1048576 - n)) ∧ w = w' := by
  have hs : ¬ (1048576 : Int) - n < 0 := by omega
  go_enter Try.func29, Try.ntmps29
  go_wp2
  go_ret
  exact ⟨rfl, rfl⟩
theorem szPlan_no (key : Int) (A : Option Addr) (n cap : Nat) (w : World) (hn : n ≤ maxLen) (h : 1048576 < n) :
    Calls Try.prog 9 #[.agg #[.int .i64 key, .slice A n cap], .int .i64 1048576] w fun e w' => e = .returned (.int .i64 (-1)) ∧ Below w.heap.size w w' := by
  have C := Lib.hid (fun w => szInt64S_no A n cap w hn h)
  clear hn h
  go_enter Try.func9, Try.ntmps9
  go_wp2_with fail
  refine (C.out _).mono ?_; rintro e w' ⟨rfl, rfl⟩
  go_wp2_with fail
  go_ret
  exact ⟨rfl, box_below w _⟩
theorem szPlan_yes (key : Int) (A : Option Addr) (n cap : Nat) (w : World) (h : n ≤ 1048576) :
    Calls Try.prog 9 #[.agg #[.int .i64 key, .slice A n cap], .int .i64 1048576] w fun e w' => e = .returned (.int .i64 (1048576 - n)) ∧ Below w.heap.size w w' := by
  have C := Lib.hid (fun w => szInt64S_yes A n cap w h)
  have hs : ¬ (1048576 : Int) - n < 0 := by omega
  clear h
  go_enter Try.func9, Try.ntmps9
  go_wp2_with fail
  refine (C.out _).mono ?_; rintro e w' ⟨rfl, rfl⟩
  go_wp2_with fail
  go_ret
  exact ⟨rfl, box_below w _⟩
theorem eqPlan_same (key : Int) (A C : Option Addr) (l : List Int) (cap cap' : Nat) (w : World) (hn : l.length ≤ 1048576) (hA : Ints w .i64 w.heap.size A l) (hC : Ints w .i64 w.heap.size C l) :
    Calls Try.prog 25 #[.agg #[.int .i64 key, .slice A l.length cap], .agg #[.int .i64 key, .slice C l.length cap']] w fun e w' => e = .returned (.bool true) ∧ Below w.heap.size w w' := by
  have E := Lib.hid (fun w hA hC => eqInt64S_same A C l cap cap' w hn hA hC)
  have HA := Lib.hid ((hA.boxed (.cells #[.int .i64 key, .slice A l.length cap] 32)).boxed (.cells #[.int .i64 key, .slice C l.length cap'] 32))
  have HC := Lib.hid ((hC.boxed (.cells #[.int .i64 key, .slice A l.length cap] 32)).boxed (.cells #[.int .i64 key, .slice C l.length cap'] 32))
  clear hA hC
  go_enter Try.func25, Try.ntmps25
  go_wp2_with fail
  refine (E.out _ HA.out HC.out).mono ?_; rintro e w1 ⟨rfl, b1⟩
  have B1 := Lib.hid ((((Below.refl w.heap.size w).alloc (Nat.le_refl _) (.cells #[.int .i64 key, .slice A l.length cap] 32)).alloc (by simp) (.cells #[.int .i64 key, .slice C l.length cap'] 32)).trans (b1.mono (by simp; omega)))
  clear b1
  go_wp2_with fail
  go_ret
  exact ⟨rfl, B1.out⟩
end Go.Proofs.Ytgaecedhkbneaaa.Mx
namespace Go.Proofs.Ytgaecedhkbneaaa.Mx
open Go.ChangeShapes Go.WideShapes Go.ChangeAt Go.RowKit
set_option linter.unusedVariables false
end Go.Proofs.Ytgaecedhkbneaaa.Mx
namespace Go.Proofs.Ytgaecedhkbneaaa.Mx
open Go.ChangeShapes Go.WideShapes Go.ChangeAt Go.RowKit
set_option linter.unusedVariables false
theorem rowIs_block {w u : World} {g : Nat} {t : TypeId} {n : Nat} {f : Nat → Value} (h : w.rowIs g t n f) (hb : u.heap[g]? = w.heap[g]?) : u.rowIs g t n f := by
  obtain ⟨c, h1, h2, h3⟩ := h
  exact ⟨c, hb.trans h1, h2, h3⟩
set_option maxHeartbeats 2000000 in
theorem toPlanO_calls (key : Int) (A : Option Addr) (l : List Int) (cap : Nat) (w : World) (hn : l.length ≤ 1048576) (hA : Ints w .i64 w.heap.size A l) :
    Calls Try.prog 17 #[.agg #[.int .i64 key, .slice A l.length cap]] w fun e w' => ∃ g, e = .returned (.agg #[.int .i64 key, .slice (some ⟨g, 0, none⟩) l.length l.length]) ∧ w.heap.size ≤ g ∧ w'.rowIs g 2 l.length (fun i => .int .i64 (l.getD i 0)) ∧ Below w.heap.size w w' := by
  have T := Lib.hid (fun w hA => toInt64S_calls A l cap w hn hA)
  have k0 := (((Kept.refl w).new 24 #[.int .i64 key, .slice A l.length cap]).new 32 #[.int .i64 0, .slice none 0 0]).new 32 #[.int .i64 key, .slice none 0 0]
  rw [show ((w.alloc (.cells #[.int .i64 key, .slice A l.length cap] 24)).alloc (.cells #[.int .i64 0, .slice none 0 0] 32)).heap.size = w.heap.size + 1 + 1 by simp, show (w.alloc (.cells #[.int .i64 key, .slice A l.length cap] 24)).heap.size = w.heap.size + 1 by simp] at k0
  have HA := Lib.hid ((hA.below k0.1 (Nat.le_refl _)).more k0.1.size)
  have K0 := Lib.hid k0
  clear hA k0
  go_enter Try.func17, Try.ntmps17
  go_wp2_with fail
  refine (T.out _ HA.out).mono ?_; rintro e w1 ⟨rfl, b1, h1⟩
  obtain ⟨g, hge⟩ : ∃ g, g = (((w.alloc (.cells #[.int .i64 key, .slice A l.length cap] 24)).alloc (.cells #[.int .i64 0, .slice none 0 0] 32)).alloc (.cells #[.int .i64 key, .slice none 0 0] 32)).heap.size := ⟨_, rfl⟩
  rw [← hge] at h1 ⊢
  have hg : w.heap.size + 1 + 1 < g := by simp at hge; omega
  have k1 := K0.out.below b1
  clear hge
  have c20 : w1.cell? ⟨w.heap.size + 1 + 1, 0, none⟩ = some (.int .i64 key) := k1.cell (List.mem_cons_self ..) 0
  have c21 : w1.cell? ⟨w.heap.size + 1 + 1, 1, none⟩ = some (.slice none 0 0) := k1.cell (List.mem_cons_self ..) 1
  have c10 : w1.cell? ⟨w.heap.size + 1, 0, none⟩ = some (.int .i64 0) := k1.tail.cell (List.mem_cons_self ..) 0
  have c11 : w1.cell? ⟨w.heap.size + 1, 1, none⟩ = some (.slice none 0 0) := k1.tail.cell (List.mem_cons_self ..) 1
  have f2 := k1.frozen (List.mem_cons_self ..) 1
  have f10 := k1.tail.frozen (List.mem_cons_self ..) 0
  have f11 := k1.tail.frozen (List.mem_cons_self ..) 1
  have K1 := Lib.hid k1
  have H1 := Lib.hid h1
  have G1 := Lib.hid hg
  clear b1 h1 k1 hg
  go_wp2_with fail
  have k2 := K1.out.set (by intro x hx; simp at hx; rcases hx with rfl | rfl <;> simp <;> omega) 1 (.slice (some ⟨g, 0, none⟩) l.length l.length)
  have k3 := (k2.tail.set (by intro x hx; simp at hx; subst hx; simp) 0 (.int .i64 key)).set (by intro x hx; simp at hx; subst hx; simp) 1 (.slice (some ⟨g, 0, none⟩) l.length l.length)
  have h3 := rowIs_block H1.out (show (((w1.setCell ⟨w.heap.size + 1 + 1, 1, none⟩ (.slice (some ⟨g, 0, none⟩) l.length l.length)).setCell ⟨w.heap.size + 1, 0, none⟩ (.int .i64 key)).setCell ⟨w.heap.size + 1, 1, none⟩ (.slice (some ⟨g, 0, none⟩) l.length l.length)).heap[g]? = w1.heap[g]? from by
    have hg := G1.out
    rw [Below.heap_setCell _ _ _ _ (by simp; omega), Below.heap_setCell _ _ _ _ (by simp; omega), Below.heap_setCell _ _ _ _ (by simp; omega)])
  generalize World.setCell _ _ _ = w4 at k3 h3 ⊢
  have d0 : w4.cell? ⟨w.heap.size + 1, 0, none⟩ = some (.int .i64 key) := k3.cell (List.mem_cons_self ..) 0
  have d1 : w4.cell? ⟨w.heap.size + 1, 1, none⟩ = some (.slice (some ⟨g, 0, none⟩) l.length l.length) := k3.cell (List.mem_cons_self ..) 1
  exact bodyPost_ret (v := .agg #[.int .i64 key, .slice (some ⟨g, 0, none⟩) l.length l.length]) (by simp [results, Try.results17, go_sem, d0, d1]) rfl ⟨g, rfl, by have := G1.out; omega, h3, k3.1⟩
end Go.Proofs.Ytgaecedhkbneaaa.Mx

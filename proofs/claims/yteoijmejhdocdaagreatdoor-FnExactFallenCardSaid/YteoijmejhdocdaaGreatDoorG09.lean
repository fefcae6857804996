import Derived.Test.YteoijmejhdocdaaGreatDoorG07
namespace Go.Proofs.YteoijmejhdocdaaGreatDoor.Mx
open Go.ChangeShapes Go.WideShapes Go.ChangeAt Go.RowKit
set_option linter.unusedVariables false
noncomputable def volB (key : Int) (l : List Int) (L : List Tru) (M : List Ce) (S : List SlN) (cnt : Int) : Bool :=
  trustsB key l L && (cellsB key l M && (decide (S.length = 2) && (fitB key l (S.getD 0 default).trusts (S.getD 0 default).cells && (fitB key l (S.getD 1 default).trusts (S.getD 1 default).cells && decide (0 ≤ cnt ∧ cnt ≤ 10000)))))
set_option maxRecDepth 20000 in
set_option maxHeartbeats 8000000 in
theorem specVolumeOk_calls (key : Int) (A : Option Addr) (l : List Int) (cap : Nat) (B : Option Addr) (L : List Tru) (tc : Nat) (C : Option Addr) (M : List Ce) (cc : Nat) (E : Option Addr) (S : List SlN) (sc : Nat) (cnt : Int) (w : World)
    (hn : l.length ≤ maxLen) (hA : Ints w .i64 w.heap.size A l) (hL : L.length ≤ 1048576) (hB : Trs w w.heap.size B L) (hM : M.length ≤ 1048576) (hC : Cls w w.heap.size C M) (hS : S.length ≤ 1048576) (hE : Slots w w.heap.size E S) (hF : ∀ i, i < S.length → (S.getD i default).Fits) :
    Calls Tryz.prog 25 #[.agg #[.int .i64 key, .slice A l.length cap, .slice B L.length tc, .slice C M.length cc, .slice E S.length sc, .int .i64 cnt]] w fun e w' => e = .returned (.bool (volB key l L M S cnt)) ∧ Below w.heap.size w w' := by
  have K0 := Lib.hid (show Kept w [(w.heap.size, 31, #[.int .i64 key, .slice A l.length cap, .slice B L.length tc, .slice C M.length cc, .slice E S.length sc, .int .i64 cnt])] _ from (Kept.refl w).put1 _ _ #[.int .i64 key, .slice A l.length cap, .slice B L.length tc, .slice C M.length cc, .slice E S.length sc, .int .i64 cnt] rfl)
  have TS := Lib.hid (fun (u : World) (hb : Below w.heap.size w u) => l10Trusts_calls key A B l cap L tc u hn ((hA.below hb (Nat.le_refl _)).more hb.size) (by unfold maxLen; omega) ((hB.below hb (Nat.le_refl _)).more hb.size))
  have CL := Lib.hid (fun (u : World) (hb : Below w.heap.size w u) => l11Cells_calls key A C l cap M cc u hn ((hA.below hb (Nat.le_refl _)).more hb.size) (by unfold maxLen; omega) ((hC.below hb (Nat.le_refl _)).more hb.size))
  have FS := Lib.hid (fun (s : SlN) (B : Option Addr) (tc : Nat) (C : Option Addr) (cc : Nat) (hs : s.Fits) (hr : SlR w w.heap.size B tc C cc s) (u : World) (hb : Below w.heap.size w u) =>
    l12Slot_calls key A l cap s.count B s.trusts tc s.mac C s.cells cc u hn ((hA.below hb (Nat.le_refl _)).more hb.size) hs.1 hs.2.1 ((hr.2.below hb (Nat.le_refl _)).more hb.size))
  have IN := Lib.hid (fun (u : World) => l1In_b cnt 0 10000 _ u rfl)
  have HE := Lib.hid hE
  have HF := Lib.hid hF
  clear hA hB hC hE hF hn
  unfold volB
  generalize trustsB key l L = ts at TS ⊢
  generalize cellsB key l M = cs at CL ⊢
  generalize decide (0 ≤ cnt ∧ cnt ≤ 10000) = ic at IN ⊢
  cases ts with
  | false =>
    rw [Bool.false_and]
    clear CL FS IN
    go_enter Tryz.func25, Tryz.ntmps25
    go_upto_region 1 with fail
    refine wp_region_class (C := fun u => Kept w [(w.heap.size, 31, #[.int .i64 key, .slice A l.length cap, .slice B L.length tc, .slice C M.length cc, .slice E S.length sc, .int .i64 cnt])] u) (by kernel_rfl) (by kernel_rfl) (K0.out).drew ?_
    iterate 42 (first
      | go_big_quiet_skip
      | (go_big_quiet_want
         go_big_quiet_op
         first
           | go_big_quiet_on
           | (apply Exists.intro
              refine ⟨fun u hu => ?_, ?_⟩
              · first
                  | with_reducible rfl
                  | (go_at_call 79; exact (TS.out u hu.1).mono fun e w' h => ⟨h.1, hu.below h.2⟩)
                  | (obtain ⟨kc0, kf0, -⟩ := hu.rd; go_simp; first | done | with_reducible rfl)
              go_big_quiet_on)))
    refine wpQuiet_nil ?_
    intro uq hq
    go_wp2_with fail
    go_ret
    exact ⟨rfl, hq.1⟩
  | true =>
    rw [Bool.true_and]
    cases cs with
    | false =>
      rw [Bool.false_and]
      clear FS IN
      go_enter Tryz.func25, Tryz.ntmps25
      go_upto_region 1 with fail
      refine wp_region_class (C := fun u => Kept w [(w.heap.size, 31, #[.int .i64 key, .slice A l.length cap, .slice B L.length tc, .slice C M.length cc, .slice E S.length sc, .int .i64 cnt])] u) (by kernel_rfl) (by kernel_rfl) (K0.out).drew ?_
      iterate 42 (first
        | go_big_quiet_skip
        | (go_big_quiet_want
           go_big_quiet_op
           first
             | go_big_quiet_on
             | (apply Exists.intro
                refine ⟨fun u hu => ?_, ?_⟩
                · first
                    | with_reducible rfl
                    | (go_at_call 79; exact (TS.out u hu.1).mono fun e w' h => ⟨h.1, hu.below h.2⟩)
                    | (go_at_call 80; exact (CL.out u hu.1).mono fun e w' h => ⟨h.1, hu.below h.2⟩)
                    | (obtain ⟨kc0, kf0, -⟩ := hu.rd; go_simp; first | done | with_reducible rfl)
                go_big_quiet_on)))
      refine wpQuiet_nil ?_
      intro uq hq
      go_wp2_with fail
      go_ret
      exact ⟨rfl, hq.1⟩
    | true =>
      rw [Bool.true_and]
      by_cases h2 : S.length = 2
      · rw [decide_eq_true h2, Bool.true_and]
        obtain ⟨b, off, e0, hb, B0, tc0, C0, cc0, c0, c1, c2, c3, hr0⟩ := HE.out 0 (by omega)
        obtain ⟨b', off', e1, hb', B1, tc1, C1, cc1, c4, c5, c6, c7, hr1⟩ := HE.out 1 (by omega)
        rw [e0] at e1
        simp only [Option.some.injEq, Addr.mk.injEq, and_true] at e1
        obtain ⟨rfl, rfl⟩ := e1
        subst e0
        have F0 := Lib.hid (FS.out _ B0 tc0 C0 cc0 (HF.out 0 (by omega)) hr0)
        have F1 := Lib.hid (FS.out _ B1 tc1 C1 cc1 (HF.out 1 (by omega)) hr1)
        clear hr0 hr1 FS HE HF hb'
        simp only [Nat.zero_mul, Nat.add_zero, Nat.one_mul] at c0 c1 c2 c3 c4 c5 c6 c7
        rw [show off + 4 + 1 = off + 5 by omega] at c5
        rw [show off + 4 + 2 = off + 6 by omega] at c6
        rw [show off + 4 + 3 = off + 7 by omega] at c7
        generalize fitB key l (S.getD 0 default).trusts (S.getD 0 default).cells = f0 at F0 ⊢
        generalize fitB key l (S.getD 1 default).trusts (S.getD 1 default).cells = f1 at F1 ⊢
        generalize (S.getD 0 default).trusts.length = n0 at c1 F0
        generalize (S.getD 0 default).cells.length = n1 at c3 F0
        generalize (S.getD 1 default).trusts.length = n2 at c5 F1
        generalize (S.getD 1 default).cells.length = n3 at c7 F1
        generalize (S.getD 0 default).count = m0 at c0 F0
        generalize (S.getD 0 default).mac = m1 at c2 F0
        generalize (S.getD 1 default).count = m2 at c4 F1
        generalize (S.getD 1 default).mac = m3 at c6 F1
        have e2 : ((S.length : Int) == 2) = true := beq_iff_eq.2 (by omega)
        have e3 : (S.length == 2) = true := beq_iff_eq.2 h2
        have l0 : (0 : Int) < S.length := by omega
        have l1 : (1 : Int) < S.length := by omega
        have l2 : 0 < S.length := by omega
        have l3 : 1 < S.length := by omega
        clear h2
        cases f0 with
        | false =>
          rw [Bool.false_and]
          clear IN F1
          go_enter Tryz.func25, Tryz.ntmps25
          go_upto_region 1 with fail
          refine wp_region_class (C := fun u => Kept w [(w.heap.size, 31, #[.int .i64 key, .slice A l.length cap, .slice B L.length tc, .slice C M.length cc, .slice (some ⟨b, off, none⟩) S.length sc, .int .i64 cnt])] u) (by kernel_rfl) (by kernel_rfl) (K0.out).drew ?_
          iterate 42 (first
            | go_big_quiet_skip
            | (go_big_quiet_want
               go_big_quiet_op
               first
                 | go_big_quiet_on
                 | (apply Exists.intro
                    refine ⟨fun u hu => ?_, ?_⟩
                    · first
                        | with_reducible rfl
                        | (go_at_call 79; exact (TS.out u hu.1).mono fun e w' h => ⟨h.1, hu.below h.2⟩)
                        | (go_at_call 80; exact (CL.out u hu.1).mono fun e w' h => ⟨h.1, hu.below h.2⟩)
                        | (go_at_call 81; exact (F0.out u hu.1).mono fun e w' h => ⟨h.1, hu.below h.2⟩)
                        | (obtain ⟨kc0, kf0, -⟩ := hu.rd; have d0 := (hu.1.cell (p := ⟨b, off, none⟩) hb).trans c0; have d1 := (hu.1.cell (p := ⟨b, off + 1, none⟩) hb).trans c1; have d2 := (hu.1.cell (p := ⟨b, off + 2, none⟩) hb).trans c2; have d3 := (hu.1.cell (p := ⟨b, off + 3, none⟩) hb).trans c3; have d4 := (hu.1.cell (p := ⟨b, off + 4, none⟩) hb).trans c4; have d5 := (hu.1.cell (p := ⟨b, off + 5, none⟩) hb).trans c5; have d6 := (hu.1.cell (p := ⟨b, off + 6, none⟩) hb).trans c6; have d7 := (hu.1.cell (p := ⟨b, off + 7, none⟩) hb).trans c7; go_simp; first | done | with_reducible rfl)
                    go_big_quiet_on)))
          refine wpQuiet_nil ?_
          intro uq hq
          go_wp2_with fail
          go_ret
          exact ⟨rfl, hq.1⟩
        | true =>
          rw [Bool.true_and]
          cases f1 with
          | false =>
            rw [Bool.false_and]
            clear IN
            go_enter Tryz.func25, Tryz.ntmps25
            go_upto_region 1 with fail
            refine wp_region_class (C := fun u => Kept w [(w.heap.size, 31, #[.int .i64 key, .slice A l.length cap, .slice B L.length tc, .slice C M.length cc, .slice (some ⟨b, off, none⟩) S.length sc, .int .i64 cnt])] u) (by kernel_rfl) (by kernel_rfl) (K0.out).drew ?_
            iterate 26 (first
              | go_big_quiet_skip
              | (go_big_quiet_want
                 go_big_quiet_op
                 first
                   | go_big_quiet_on
                   | (apply Exists.intro
                      refine ⟨fun u hu => ?_, ?_⟩
                      · first
                          | with_reducible rfl
                          | (go_at_call 79; exact (TS.out u hu.1).mono fun e w' h => ⟨h.1, hu.below h.2⟩)
                          | (go_at_call 80; exact (CL.out u hu.1).mono fun e w' h => ⟨h.1, hu.below h.2⟩)
                          | (go_at_call 81; exact (F0.out u hu.1).mono fun e w' h => ⟨h.1, hu.below h.2⟩)
                          | (obtain ⟨kc0, kf0, -⟩ := hu.rd; have d0 := (hu.1.cell (p := ⟨b, off, none⟩) hb).trans c0; have d1 := (hu.1.cell (p := ⟨b, off + 1, none⟩) hb).trans c1; have d2 := (hu.1.cell (p := ⟨b, off + 2, none⟩) hb).trans c2; have d3 := (hu.1.cell (p := ⟨b, off + 3, none⟩) hb).trans c3; have d4 := (hu.1.cell (p := ⟨b, off + 4, none⟩) hb).trans c4; have d5 := (hu.1.cell (p := ⟨b, off + 5, none⟩) hb).trans c5; have d6 := (hu.1.cell (p := ⟨b, off + 6, none⟩) hb).trans c6; have d7 := (hu.1.cell (p := ⟨b, off + 7, none⟩) hb).trans c7; go_simp; first | done | with_reducible rfl)
                      go_big_quiet_on)))
            iterate 16 (first
              | go_big_quiet_skip
              | (go_big_quiet_want
                 go_big_quiet_op
                 first
                   | go_big_quiet_on
                   | (apply Exists.intro
                      refine ⟨fun u hu => ?_, ?_⟩
                      · first
                          | with_reducible rfl
                          | (go_at_call 81; exact (F1.out u hu.1).mono fun e w' h => ⟨h.1, hu.below h.2⟩)
                          | (obtain ⟨kc0, kf0, -⟩ := hu.rd; have d0 := (hu.1.cell (p := ⟨b, off, none⟩) hb).trans c0; have d1 := (hu.1.cell (p := ⟨b, off + 1, none⟩) hb).trans c1; have d2 := (hu.1.cell (p := ⟨b, off + 2, none⟩) hb).trans c2; have d3 := (hu.1.cell (p := ⟨b, off + 3, none⟩) hb).trans c3; have d4 := (hu.1.cell (p := ⟨b, off + 4, none⟩) hb).trans c4; have d5 := (hu.1.cell (p := ⟨b, off + 5, none⟩) hb).trans c5; have d6 := (hu.1.cell (p := ⟨b, off + 6, none⟩) hb).trans c6; have d7 := (hu.1.cell (p := ⟨b, off + 7, none⟩) hb).trans c7; go_simp; first | done | with_reducible rfl)
                      go_big_quiet_on)))
            refine wpQuiet_nil ?_
            intro uq hq
            go_wp2_with fail
            go_ret
            exact ⟨rfl, hq.1⟩
          | true =>
            rw [Bool.true_and]
            go_enter Tryz.func25, Tryz.ntmps25
            go_upto_region 1 with fail
            refine wp_region_class (C := fun u => Kept w [(w.heap.size, 31, #[.int .i64 key, .slice A l.length cap, .slice B L.length tc, .slice C M.length cc, .slice (some ⟨b, off, none⟩) S.length sc, .int .i64 cnt])] u) (by kernel_rfl) (by kernel_rfl) (K0.out).drew ?_
            iterate 26 (first
              | go_big_quiet_skip
              | (go_big_quiet_want
                 go_big_quiet_op
                 first
                   | go_big_quiet_on
                   | (apply Exists.intro
                      refine ⟨fun u hu => ?_, ?_⟩
                      · first
                          | with_reducible rfl
                          | (go_at_call 79; exact (TS.out u hu.1).mono fun e w' h => ⟨h.1, hu.below h.2⟩)
                          | (go_at_call 80; exact (CL.out u hu.1).mono fun e w' h => ⟨h.1, hu.below h.2⟩)
                          | (go_at_call 81; exact (F0.out u hu.1).mono fun e w' h => ⟨h.1, hu.below h.2⟩)
                          | (obtain ⟨kc0, kf0, -⟩ := hu.rd; have d0 := (hu.1.cell (p := ⟨b, off, none⟩) hb).trans c0; have d1 := (hu.1.cell (p := ⟨b, off + 1, none⟩) hb).trans c1; have d2 := (hu.1.cell (p := ⟨b, off + 2, none⟩) hb).trans c2; have d3 := (hu.1.cell (p := ⟨b, off + 3, none⟩) hb).trans c3; have d4 := (hu.1.cell (p := ⟨b, off + 4, none⟩) hb).trans c4; have d5 := (hu.1.cell (p := ⟨b, off + 5, none⟩) hb).trans c5; have d6 := (hu.1.cell (p := ⟨b, off + 6, none⟩) hb).trans c6; have d7 := (hu.1.cell (p := ⟨b, off + 7, none⟩) hb).trans c7; go_simp; first | done | with_reducible rfl)
                      go_big_quiet_on)))
            iterate 16 (first
              | go_big_quiet_skip
              | (go_big_quiet_want
                 go_big_quiet_op
                 first
                   | go_big_quiet_on
                   | (apply Exists.intro
                      refine ⟨fun u hu => ?_, ?_⟩
                      · first
                          | with_reducible rfl
                          | (go_at_call 81; exact (F1.out u hu.1).mono fun e w' h => ⟨h.1, hu.below h.2⟩)
                          | (go_at_call 82; exact class_same hu (IN.out u))
                          | (obtain ⟨kc0, kf0, -⟩ := hu.rd; have d0 := (hu.1.cell (p := ⟨b, off, none⟩) hb).trans c0; have d1 := (hu.1.cell (p := ⟨b, off + 1, none⟩) hb).trans c1; have d2 := (hu.1.cell (p := ⟨b, off + 2, none⟩) hb).trans c2; have d3 := (hu.1.cell (p := ⟨b, off + 3, none⟩) hb).trans c3; have d4 := (hu.1.cell (p := ⟨b, off + 4, none⟩) hb).trans c4; have d5 := (hu.1.cell (p := ⟨b, off + 5, none⟩) hb).trans c5; have d6 := (hu.1.cell (p := ⟨b, off + 6, none⟩) hb).trans c6; have d7 := (hu.1.cell (p := ⟨b, off + 7, none⟩) hb).trans c7; go_simp; first | done | with_reducible rfl)
                      go_big_quiet_on)))
            refine wpQuiet_nil ?_
            intro uq hq
            go_wp2_with fail
            go_ret
            exact ⟨rfl, hq.1⟩
      · rw [decide_eq_false h2, Bool.false_and]
        have e2 : ((S.length : Int) == 2) = false := beq_false_of_ne (by omega)
        have e3 : (S.length == 2) = false := beq_false_of_ne h2
        clear h2 FS IN
        go_enter Tryz.func25, Tryz.ntmps25
        go_upto_region 1 with fail
        refine wp_region_class (C := fun u => Kept w [(w.heap.size, 31, #[.int .i64 key, .slice A l.length cap, .slice B L.length tc, .slice C M.length cc, .slice E S.length sc, .int .i64 cnt])] u) (by kernel_rfl) (by kernel_rfl) (K0.out).drew ?_
        iterate 42 (first
          | go_big_quiet_skip
          | (go_big_quiet_want
             go_big_quiet_op
             first
               | go_big_quiet_on
               | (apply Exists.intro
                  refine ⟨fun u hu => ?_, ?_⟩
                  · first
                      | with_reducible rfl
                      | (go_at_call 79; exact (TS.out u hu.1).mono fun e w' h => ⟨h.1, hu.below h.2⟩)
                      | (go_at_call 80; exact (CL.out u hu.1).mono fun e w' h => ⟨h.1, hu.below h.2⟩)
                      | (obtain ⟨kc0, kf0, -⟩ := hu.rd; go_simp; first | done | with_reducible rfl)
                  go_big_quiet_on)))
        refine wpQuiet_nil ?_
        intro uq hq
        go_wp2_with fail
        go_ret
        exact ⟨rfl, hq.1⟩
end Go.Proofs.YteoijmejhdocdaaGreatDoor.Mx

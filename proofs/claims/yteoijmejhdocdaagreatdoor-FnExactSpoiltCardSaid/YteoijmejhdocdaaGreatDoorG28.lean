import Derived.Test.YteoijmejhdocdaaGreatDoorG18
namespace Go.Proofs.YteoijmejhdocdaaGreatDoor.Mx
open Go.ChangeShapes Go.WideShapes Go.ChangeAt Go.RowKit
set_option linter.unusedVariables false
set_option maxRecDepth 20000 in
set_option maxHeartbeats 8000000 in
theorem implChosen_calls (key : Int) (A D : Option Addr) (l : List Int) (cap : Nat) (hcap : l.length ≤ cap) (S : List SlN) (cap2 : Nat) (hcap2 : S.length ≤ cap2) (n : Int) (w : World) (hn : l.length ≤ 1048576) (hA : Ints w .i64 w.heap.size A l) (hN : S.length ≤ 1048576) (hD : Slots w w.heap.size D S) (hF : ∀ i, i < S.length → (S.getD i default).Fits) :
    Calls Tryz.prog 90 #[.agg (pA key A l.length cap), .slice D S.length cap2, .int .i64 n] w fun e w' => e = .returned (.int .i64 (chosenOf key l S n)) ∧ Below w.heap.size w w' := by
  have K0 := Lib.hid (show Kept w [(w.heap.size, 26, (pA key A l.length cap))] _ from (Kept.refl w).put1 _ _ (pA key A l.length cap) rfl)
  have SO := Lib.hid (fun (s : SlN) (B : Option Addr) (tc : Nat) (C : Option Addr) (cc : Nat) (hs : s.Fits) (v : World) (hr : SlR v v.heap.size B tc C cc s) (u : World) (hv : Below v.heap.size v u) (hb : Below w.heap.size w u) =>
    implSlotOk_calls key A l cap hcap s.count B s.trusts tc s.mac C s.cells cc u hn ((hA.below hb (Nat.le_refl _)).more hb.size) hs.1 ((hr.1.below hv (Nat.le_refl _)).more hv.size) hs.2.2.1 hs.2.2.2 hs.2.1 ((hr.2.below hv (Nat.le_refl _)).more hv.size))
  have HD := Lib.hid hD
  have HF := Lib.hid (fits_all hF)
  clear hA hD hF hn hcap
  go_enter Tryz.func90, Tryz.ntmps90
  go_wp2_with fail
  go_loopw [7] (fun i wr => ∃ j : Nat, j ≤ S.length + 1 ∧ i = .int .i64 j ∧ NoneYet key l n S j ∧ Kept w [(w.heap.size, 26, (pA key A l.length cap))] wr) (fun i _ => S.length + 2 - (intOf i).toNat)
  case atStart => exact ⟨0, Nat.zero_le _, rfl, fun i hi => absurd hi (by omega), K0.out⟩
  case round =>
    obtain ⟨j, hj, rfl, hup, hz⟩ := hrel
    have HU := Lib.hid hup
    clear hup
    by_cases hlt : j < S.length
    · obtain ⟨b, off, rfl, B0, t0, C0, c0, B1, t1, C1, c1, hr0, hr1, hcall⟩ := Slots.two ((HD.out.below hz.1 (Nat.le_refl _)).more hz.1.size) j hlt
      have hlt' : (j : Int) < S.length := by omega
      have hk0 : (0 : Int) ≤ j := by omega
      have TB0 := Lib.hid (SO.out _ B0 t0 C0 c0 (HF.out j) wr hr0)
      have TB1 := Lib.hid (SO.out _ B1 t1 C1 c1 (HF.out (j + 1)) wr hr1)
      have TC := Lib.hid hcall
      have HC0 := Lib.hid (show choiceB key l n (S.getD j default) = (slotB key l (S.getD j default).count (S.getD j default).trusts (S.getD j default).mac (S.getD j default).cells && decide ((S.getD j default).count = n)) from rfl)
      have HC1 := Lib.hid (show choiceB key l n (S.getD (j + 1) default) = (slotB key l (S.getD (j + 1) default).count (S.getD (j + 1) default).trusts (S.getD (j + 1) default).mac (S.getD (j + 1) default).cells && decide ((S.getD (j + 1) default).count = n)) from rfl)
      have AT0 := Lib.hid (fun (h : choiceB key l n (S.getD j default) = true) => chosenOf_at hlt h HU.out)
      have NX0 := Lib.hid (fun (h : choiceB key l n (S.getD j default) = false) => HU.out.succ h)
      have AT1 := Lib.hid (fun (hu : NoneYet key l n S (j + 1)) (h : choiceB key l n (S.getD (j + 1) default) = true) => chosenOf_at (choice_lt h) h hu)
      have NX1 := Lib.hid (fun (hu : NoneYet key l n S (j + 1)) (h : choiceB key l n (S.getD (j + 1) default) = false) => hu.succ h)
      clear hr0 hr1 hcall
      generalize slotB key l (S.getD j default).count (S.getD j default).trusts (S.getD j default).mac (S.getD j default).cells = sb0 at TB0 HC0
      generalize choiceB key l n (S.getD j default) = ch0 at HC0 AT0 NX0
      generalize slotB key l (S.getD (j + 1) default).count (S.getD (j + 1) default).trusts (S.getD (j + 1) default).mac (S.getD (j + 1) default).cells = sb1 at TB1 HC1
      generalize choiceB key l n (S.getD (j + 1) default) = ch1 at HC1 AT1 NX1
      generalize (S.getD j default).count = sc0 at TC TB0 HC0
      generalize (S.getD j default).mac = sm0 at TC TB0
      generalize (S.getD j default).trusts.length = tl0 at TC TB0
      generalize (S.getD j default).cells.length = cl0 at TC TB0
      generalize (S.getD (j + 1) default).count = sc1 at TC TB1 HC1
      generalize (S.getD (j + 1) default).mac = sm1 at TC TB1
      generalize (S.getD (j + 1) default).trusts.length = tl1 at TC TB1
      generalize (S.getD (j + 1) default).cells.length = cl1 at TC TB1
      have hcj : ¬ cap2 = j := by omega
      have hjl : (j : Int) ≤ S.length := by omega
      have hw1 : IntKind.i64.wrap ((j : Int) + 1) = (j + 1 : Nat) := by rw [IntWalk.i64_in _ (by omega)]; omega
      have hw2 : IntKind.i64.wrap ((j : Int) + 2) = (j + 2 : Nat) := by rw [IntWalk.i64_in _ (by omega)]; omega
      have i0 : ∀ w : World, (Instr.index 98 (.agg #[.int .i64 sc0, .slice B0 tl0 t0, .int .i64 sm0, .slice C0 cl0 c0, .int .i64 sc1, .slice B1 tl1 t1, .int .i64 sm1, .slice C1 cl1 c1]) (.int .i64 0)).run Tryz.prog w = .ok (.agg #[.int .i64 sc0, .slice B0 tl0 t0, .int .i64 sm0, .slice C0 cl0 c0]) w := fun _ => by kernel_rfl
      have i1 : ∀ w : World, (Instr.index 98 (.agg #[.int .i64 sc0, .slice B0 tl0 t0, .int .i64 sm0, .slice C0 cl0 c0, .int .i64 sc1, .slice B1 tl1 t1, .int .i64 sm1, .slice C1 cl1 c1]) (.int .i64 1)).run Tryz.prog w = .ok (.agg #[.int .i64 sc1, .slice B1 tl1 t1, .int .i64 sm1, .slice C1 cl1 c1]) w := fun _ => by kernel_rfl
      go_wp2_with fail
      refine (TC.out _).mono ?_; rintro e w1 ⟨rfl, b1⟩
      have H1 := Lib.hid (hz.below b1)
      have B1 := Lib.hid b1
      clear b1 hz TC
      go_wp2_with fail
      go_loopw [20] (fun i wi => (i = .int .i64 0 ∧ NoneYet key l n S j ∧ Kept w [(w.heap.size, 26, (pA key A l.length cap))] wi ∧ Below wr.heap.size wr wi) ∨ (i = .int .i64 1 ∧ NoneYet key l n S (j + 1) ∧ Kept w [(w.heap.size, 26, (pA key A l.length cap))] wi ∧ Below wr.heap.size wr wi) ∨ (i = .int .i64 2 ∧ NoneYet key l n S (j + 2) ∧ Kept w [(w.heap.size, 26, (pA key A l.length cap))] wi ∧ Below wr.heap.size wr wi)) (fun i _ => 2 - (intOf i).toNat)
      case atStart => exact .inl ⟨rfl, HU.out, H1.out, B1.out⟩
      case round =>
        clear H1 B1 HU
        obtain h | h | h := hrel
        · obtain ⟨rfl, hnx, hz, hbi⟩ := h
          clear hnx TB1 AT1 NX1 HC1
          rcases Bool.eq_false_or_eq_true (decide (sc0 = n)) with hd | hd
          · have hcn : sc0 = n := of_decide_eq_true hd
            have hbe : (sc0 == n) = true := beq_iff_eq.2 hcn
            rcases sb0 with _ | _
            · have NX := Lib.hid (NX0.out (by rw [HC0.out, Bool.false_and]))
              clear hd hcn
              go_upto_region 7 with fail
              have hz2 := hz.put1 wr.heap.size 91 #[.int .i64 sc0, .slice B0 tl0 t0, .int .i64 sm0, .slice C0 cl0 c0] rfl
              have hb2 := hbi.trans ((box_below wr (.cells #[.int .i64 sc0, .slice B0 tl0 t0, .int .i64 sm0, .slice C0 cl0 c0] 91)).mono hbi.size)
              obtain ⟨kc0, kf0, kc1, kf1, -⟩ := hz2.rd
              have HZ := Lib.hid hz2
              have HB := Lib.hid hb2
              clear hz hz2 hbi hb2
              go_wp2_with fail
              refine (TB0.out _ HB.out HZ.out.1).mono ?_; rintro e w2 ⟨rfl, b2⟩
              have hz3 := (HZ.out.below b2).sub (L' := [(w.heap.size, 26, (pA key A l.length cap))]) (by intro y hy; simp at hy ⊢; right; exact hy)
              have hb3 := HB.out.trans (b2.mono HB.out.size)
              clear b2 kc0 kf0 kc1 kf1 HZ HB
              go_wp2_with fail
              go_roundw
              case rel => exact .inr (.inl ⟨rfl, NX.out, hz3, hb3⟩)
              case measure => simp [intOf]
            · have AT := Lib.hid (AT0.out (by rw [HC0.out, decide_eq_true hcn]; rfl))
              clear hd hcn
              go_upto_region 7 with fail
              have hz2 := hz.put1 wr.heap.size 91 #[.int .i64 sc0, .slice B0 tl0 t0, .int .i64 sm0, .slice C0 cl0 c0] rfl
              have hb2 := hbi.trans ((box_below wr (.cells #[.int .i64 sc0, .slice B0 tl0 t0, .int .i64 sm0, .slice C0 cl0 c0] 91)).mono hbi.size)
              obtain ⟨kc0, kf0, kc1, kf1, -⟩ := hz2.rd
              have HZ := Lib.hid hz2
              have HB := Lib.hid hb2
              clear hz hz2 hbi hb2
              go_wp2_with fail
              refine (TB0.out _ HB.out HZ.out.1).mono ?_; rintro e w2 ⟨rfl, b2⟩
              have hz3 := HZ.out.below b2
              clear b2 kc0 kf0 kc1 kf1 HZ
              go_wp2_with fail
              go_ret
              exact ⟨by rw [AT.out]; rfl, hz3.1⟩
          · have hcn : ¬ sc0 = n := of_decide_eq_false hd
            have hbe : (sc0 == n) = false := beq_false_of_ne hcn
            have NX := Lib.hid (NX0.out (by rw [HC0.out, hd, Bool.and_false]))
            clear hd hcn
            go_upto_region 7 with fail
            have hz2 := hz.put1 wr.heap.size 91 #[.int .i64 sc0, .slice B0 tl0 t0, .int .i64 sm0, .slice C0 cl0 c0] rfl
            have hb2 := hbi.trans ((box_below wr (.cells #[.int .i64 sc0, .slice B0 tl0 t0, .int .i64 sm0, .slice C0 cl0 c0] 91)).mono hbi.size)
            obtain ⟨kc0, kf0, kc1, kf1, -⟩ := hz2.rd
            have HZ := Lib.hid hz2
            have HB := Lib.hid hb2
            clear hz hz2 hbi hb2
            go_wp2_with fail
            have hz3 := HZ.out.sub (L' := [(w.heap.size, 26, (pA key A l.length cap))]) (by intro y hy; simp at hy ⊢; right; exact hy)
            have hb3 := HB.out
            clear kc0 kf0 kc1 kf1 HZ HB
            go_roundw
            case rel => exact .inr (.inl ⟨rfl, NX.out, hz3, hb3⟩)
            case measure => simp [intOf]
        · obtain ⟨rfl, hnx, hz, hbi⟩ := h
          have AT2 := Lib.hid (AT1.out hnx)
          have NX2 := Lib.hid (NX1.out hnx)
          clear AT1 NX1
          have AT1 := Lib.hid AT2.out
          have NX1 := Lib.hid NX2.out
          clear hnx TB0 AT0 NX0 HC0 AT2 NX2
          rcases Bool.eq_false_or_eq_true (decide (sc1 = n)) with hd | hd
          · have hcn : sc1 = n := of_decide_eq_true hd
            have hbe : (sc1 == n) = true := beq_iff_eq.2 hcn
            rcases sb1 with _ | _
            · have NX := Lib.hid (NX1.out (by rw [HC1.out, Bool.false_and]))
              clear hd hcn
              go_upto_region 7 with fail
              have hz2 := hz.put1 wr.heap.size 91 #[.int .i64 sc1, .slice B1 tl1 t1, .int .i64 sm1, .slice C1 cl1 c1] rfl
              have hb2 := hbi.trans ((box_below wr (.cells #[.int .i64 sc1, .slice B1 tl1 t1, .int .i64 sm1, .slice C1 cl1 c1] 91)).mono hbi.size)
              obtain ⟨kc0, kf0, kc1, kf1, -⟩ := hz2.rd
              have HZ := Lib.hid hz2
              have HB := Lib.hid hb2
              clear hz hz2 hbi hb2
              go_wp2_with fail
              refine (TB1.out _ HB.out HZ.out.1).mono ?_; rintro e w2 ⟨rfl, b2⟩
              have hz3 := (HZ.out.below b2).sub (L' := [(w.heap.size, 26, (pA key A l.length cap))]) (by intro y hy; simp at hy ⊢; right; exact hy)
              have hb3 := HB.out.trans (b2.mono HB.out.size)
              clear b2 kc0 kf0 kc1 kf1 HZ HB
              go_wp2_with fail
              go_roundw
              case rel => exact .inr (.inr ⟨rfl, NX.out, hz3, hb3⟩)
              case measure => simp [intOf]
            · have AT := Lib.hid (AT1.out (by rw [HC1.out, decide_eq_true hcn]; rfl))
              clear hd hcn
              go_upto_region 7 with fail
              have hz2 := hz.put1 wr.heap.size 91 #[.int .i64 sc1, .slice B1 tl1 t1, .int .i64 sm1, .slice C1 cl1 c1] rfl
              have hb2 := hbi.trans ((box_below wr (.cells #[.int .i64 sc1, .slice B1 tl1 t1, .int .i64 sm1, .slice C1 cl1 c1] 91)).mono hbi.size)
              obtain ⟨kc0, kf0, kc1, kf1, -⟩ := hz2.rd
              have HZ := Lib.hid hz2
              have HB := Lib.hid hb2
              clear hz hz2 hbi hb2
              go_wp2_with fail
              refine (TB1.out _ HB.out HZ.out.1).mono ?_; rintro e w2 ⟨rfl, b2⟩
              have hz3 := HZ.out.below b2
              clear b2 kc0 kf0 kc1 kf1 HZ
              go_wp2_with fail
              go_ret
              exact ⟨by rw [AT.out]; rfl, hz3.1⟩
          · have hcn : ¬ sc1 = n := of_decide_eq_false hd
            have hbe : (sc1 == n) = false := beq_false_of_ne hcn
            have NX := Lib.hid (NX1.out (by rw [HC1.out, hd, Bool.and_false]))
            clear hd hcn
            go_upto_region 7 with fail
            have hz2 := hz.put1 wr.heap.size 91 #[.int .i64 sc1, .slice B1 tl1 t1, .int .i64 sm1, .slice C1 cl1 c1] rfl
            have hb2 := hbi.trans ((box_below wr (.cells #[.int .i64 sc1, .slice B1 tl1 t1, .int .i64 sm1, .slice C1 cl1 c1] 91)).mono hbi.size)
            obtain ⟨kc0, kf0, kc1, kf1, -⟩ := hz2.rd
            have HZ := Lib.hid hz2
            have HB := Lib.hid hb2
            clear hz hz2 hbi hb2
            go_wp2_with fail
            have hz3 := HZ.out.sub (L' := [(w.heap.size, 26, (pA key A l.length cap))]) (by intro y hy; simp at hy ⊢; right; exact hy)
            have hb3 := HB.out
            clear kc0 kf0 kc1 kf1 HZ HB
            go_roundw
            case rel => exact .inr (.inr ⟨rfl, NX.out, hz3, hb3⟩)
            case measure => simp [intOf]
        · obtain ⟨rfl, hnx, hz, hbi⟩ := h
          have NX := Lib.hid hnx
          clear hnx TB0 TB1 AT0 AT1 NX0 NX1 HC0 HC1 hbi
          go_wp2_with fail
          go_roundw
          case rel => exact ⟨j + 2, by omega, by go_num, NX.out, hz⟩
          case measure => simp [intOf]; omega
    · have HX := Lib.hid (chosenOf_none (key := key) (l := l) (n := n) (S := S) (fun q hq => HU.out q (by omega)))
      clear HU
      have hge : ¬ (j : Int) < S.length := by omega
      go_wp2_with fail
      go_ret
      exact ⟨by rw [HX.out]; rfl, hz.1⟩
end Go.Proofs.YteoijmejhdocdaaGreatDoor.Mx

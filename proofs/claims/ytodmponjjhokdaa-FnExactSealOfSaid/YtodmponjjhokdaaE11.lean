import Derived.Test.YtodmponjjhokdaaE09
import Derived.Test.YtodmponjjhokdaaE10
import Derived.Test.YtodmponjjhokdaaE06
namespace Go.Proofs.Ytodmponjjhokdaa.Mx
open Go.ChangeShapes Go.WideShapes Go.ChangeAt Go.RowKit
set_option linter.unusedVariables false
def PlanY (key : Int) (l : List Int) (v : Value) (u : World) : Prop := ∃ G, v = .agg #[.int .i64 key, .slice G l.length l.length] ∧ Ints u .i64 u.heap.size G l
theorem PlanY.below (key : Int) (l : List Int) : ∀ v u u', Below u.heap.size u u' → PlanY key l v u → PlanY key l v u' := fun v u u' hb ⟨G, e, hI⟩ => ⟨G, e, (hI.below hb (Nat.le_refl _)).more hb.size⟩
def SealY (cnt mac : Int) (L : List Tru) (v : Value) (u : World) : Prop := ∃ G, v = .agg #[.int .i64 cnt, .slice G L.length L.length, .int .i64 mac] ∧ Trs u u.heap.size G L
theorem SealY.below (cnt mac : Int) (L : List Tru) : ∀ v u u', Below u.heap.size u u' → SealY cnt mac L v u → SealY cnt mac L v u' := fun v u u' hb ⟨G, e, hI⟩ => ⟨G, e, hI.grow hb⟩
theorem Ints.grow {u v : World} {A : Option Addr} {l : List Int} (h : Ints u .i64 u.heap.size A l) (hb : Below u.heap.size u v) : Ints v .i64 v.heap.size A l := (h.below hb (Nat.le_refl _)).more hb.size
set_option maxRecDepth 20000 in
set_option maxHeartbeats 16000000 in
theorem macOfLaw_calls (key cnt : Int) (A C : Option Addr) (l : List Int) (cap : Nat) (L : List Tru) (cap2 : Nat) (w : World) (hn : l.length ≤ maxLen) (hA : Ints w .i64 w.heap.size A l) (hm : L.length ≤ maxLen) (hC : Trs w w.heap.size C L) (hI : TrusI L) (hc0 : I64 cnt) :
    Calls Try.prog 3 #[.agg #[.int .i64 key, .slice A l.length cap], .int .i64 cnt, .slice C L.length cap2] w fun e w' => e = .returned (.bool true) ∧ Below w.heap.size w w' := by
  have K0 := Lib.hid (show Kept w [(w.heap.size, 24, #[.int .i64 key, .slice A l.length cap])] _ from ((Kept.refl w).put1 _ _ #[.int .i64 key, .slice A l.length cap] rfl))
  by_cases hs : 1048576 < l.length
  · have S := Lib.hid (fun w => szPlan_no key A l.length cap w hn hs)
    clear hA hs hC hI hc0
    go_enter Try.func3, Try.ntmps3
    go_wp2_with fail
    refine (S.out _).mono ?_; rintro e w1 ⟨rfl, b1⟩
    have B1 := Lib.hid (K0.out.below b1).1
    clear b1
    go_wp2_with fail
    go_ret
    exact ⟨rfl, B1.out⟩
  · have hs' : l.length ≤ 1048576 := by omega
    have S := Lib.hid (fun w => szPlan_yes key A l.length cap w hs')
    have hg : ¬ (1048576 : Int) - l.length < 0 := by omega
    by_cases ht : 1048576 < l.length + L.length
    · have ST := Lib.hid (fun u => szTrustS_calls C L.length cap2 (1048576 - l.length) u (by omega) (by omega) hm)
      rw [if_neg (by omega)] at ST
      clear hA hs hs' hC hI hc0
      go_enter Try.func3, Try.ntmps3
      go_wp2_with fail
      refine (S.out _).mono ?_; rintro e w1 ⟨rfl, b1⟩
      have k1 := K0.out.below b1
      clear b1 S K0
      obtain ⟨kc0, kf0, -⟩ := k1.rd
      go_wp2_with fail
      refine (ST.out _).mono ?_; rintro e w' ⟨rfl, rfl⟩
      go_wp2_with fail
      go_ret
      exact ⟨rfl, k1.1⟩
    · have hN : L.length ≤ 1048576 := by omega
      have ST := Lib.hid (fun u => szTrustS_calls C L.length cap2 (1048576 - l.length) u (by omega) (by omega) hm)
      rw [if_pos (by omega)] at ST
      have hg2 : ¬ (1048576 : Int) - l.length - L.length < 0 := by omega
      have T := Lib.hid (fun v hb => toPlan_calls key A l cap v hs' ((hA.below (show Below w.heap.size w v from hb) (Nat.le_refl _)).more hb.size))
      have TT := Lib.hid (fun v hb => toTrusts_own C L cap2 v hN ((hC.below (show Below w.heap.size w v from hb) (Nat.le_refl _)).more hb.size))
      have Q := Lib.hid (fun A C w hA hC => eqPlan_same key A C l l.length l.length w hs' hA hC)
      have EQ := Lib.hid (fun A C u hA hC => eqTrustS_same A C L L.length L.length u hm hA hC)
      have MS := Lib.hid (fun D E u hD hE => specMac_calls key cnt D E l l.length L L.length u hn hD hN hE hI hc0)
      have MI := Lib.hid (fun D E u hD hE => implMac_calls key cnt D E l l.length (Nat.le_refl _) L L.length u hs' hD hN hE hI hc0)
      generalize macOf key l cnt L = mo at MS MI
      have hmo : (mo != mo) = false := by simp
      clear hA hs hC hI hc0 hn hm ht
      have k0 := K0.out
      clear K0
      go_enter Try.func3, Try.ntmps3
      go_wp2_with fail
      refine (S.out _).mono ?_; rintro e uz1 ⟨rfl, bz2⟩
      have hz3 := k0.below bz2
      clear k0 bz2
      obtain ⟨kc0, kf0, -⟩ := hz3.rd
      go_wp2_with fail
      refine (ST.out _).mono ?_; rintro e w' ⟨rfl, rfl⟩
      go_wp2_with fail
      refine (T.out _ hz3.1).mono ?_; rintro e uz4 ⟨G, rfl, hG, bz5⟩
      have hz6 := hz3.below bz5
      clear hz3 bz5 kc0 kf0
      obtain ⟨kc0, kf0, -⟩ := hz6.rd
      have HG := Lib.hid hG
      clear hG
      go_wp2_with fail
      refine (TT.out _ hz6.1).mono ?_; rintro e uz7 ⟨g, rfl, -, -, ht, -, bz8⟩
      have hz9 := hz6.below bz8
      have hg_ := Ints.grow HG.out bz8
      clear hz6 bz8 HG kc0 kf0
      have HG := Lib.hid hg_
      clear hg_
      obtain ⟨kc0, kf0, -⟩ := hz9.rd
      have HT := Lib.hid ht
      clear ht
      go_wp2_with fail
      refine (MS.out _ _ _ HG.out HT.out).mono ?_; rintro e uz10 ⟨rfl, bz11⟩
      have hz12 := hz9.below bz11
      clear hz9 bz11 kc0 kf0
      obtain ⟨kc0, kf0, -⟩ := hz12.rd
      clear HG HT MS S ST
      go_wp2_with fail
      refine (T.out _ hz12.1).mono ?_; rintro e uz13 ⟨G, rfl, hG, bz14⟩
      have hz15 := hz12.below bz14
      clear hz12 bz14 kc0 kf0
      have lkz16_0 : w.heap.size < uz13.heap.size := hz15.lt (x := (w.heap.size, 24, #[.int .i64 key, .slice A l.length cap])) (by simp)
      have kz16 := hz15.put1 uz13.heap.size 29 #[.int .i64 key, .slice G l.length l.length] rfl
      have hg_ := Ints.grow hG (box_below uz13 (.cells #[.int .i64 key, .slice G l.length l.length] 29))
      clear hz15
      go_upto_region 10 with fail
      generalize World.alloc _ _ = wa at kz16 hg_ ⊢
      have HG := Lib.hid hg_
      clear hg_
      obtain ⟨kc0, kf0, kc1, kf1, -⟩ := kz16.rd
      clear hG
      go_wp2_with fail
      refine (TT.out _ kz16.1).mono ?_; rintro e uz17 ⟨g, rfl, -, -, ht, -, bz18⟩
      have hz19 := kz16.below bz18
      have hg_ := Ints.grow HG.out bz18
      clear kz16 bz18 HG kc0 kf0 kc1 kf1
      have HG := Lib.hid hg_
      clear hg_
      obtain ⟨kc0, kf0, kc1, kf1, -⟩ := hz19.rd
      have HT := Lib.hid ht
      clear ht
      go_wp2_with fail
      refine (MI.out _ _ _ HG.out HT.out).mono ?_; rintro e uz20 ⟨rfl, bz21⟩
      have hz22 := hz19.below bz21
      have hg_ := Ints.grow HG.out bz21
      have ht_ := HT.out.grow bz21
      clear hz19 bz21 HG HT kc0 kf0 kc1 kf1
      have HG := Lib.hid hg_
      clear hg_
      have HT := Lib.hid ht_
      clear ht_
      obtain ⟨kc0, kf0, kc1, kf1, -⟩ := hz22.rd
      go_upto_region 14 with fail
      have Kz23 := Lib.hid hz22
      clear hz22
      go_region_with (first
        | (go_at_call 9; refine (T.out _ Kz23.out.drew.1).mono ?_; rintro e wx ⟨Cx, rfl, hx, bx⟩; have kx := Kz23.out.drew.below bx; obtain ⟨mc0, mf0, mc1, mf1, -⟩ := kx.rd; have GX := Lib.hid (Ints.grow (show Ints uz20.drew .i64 uz20.drew.heap.size G l from HG.out) bx); have BX := Lib.hid bx; have HX := Lib.hid hx; clear kx hx bx)
        | (go_at_call 12; refine (Q.out _ _ _ GX.out HX.out).mono ?_; rintro e wy ⟨rfl, hy⟩; have BY := Lib.hid (BX.out.trans (hy.mono BX.out.size)); clear hy))
      all_goals
        have hz24 := Kz23.out.drew.below BY.out
        have ht_ := Sls.grow (show Trs uz20.drew uz20.drew.heap.size (some ⟨g, 0, none⟩) L from HT.out) BY.out
        clear Kz23 HT BX GX HX
        have HT := Lib.hid ht_
        clear ht_
        go_upto_region 16 with fail
        obtain ⟨kc0, kf0, kc1, kf1, -⟩ := hz24.rd
        go_wp2_with fail
        refine (TT.out _ hz24.1).mono ?_; rintro e uz25 ⟨g2, rfl, -, -, ht2, -, bz26⟩
        have hz27 := hz24.below bz26
        have ht_ := HT.out.grow bz26
        clear hz24 bz26 HT kc0 kf0 kc1 kf1
        have HT := Lib.hid ht_
        clear ht_
        obtain ⟨kc0, kf0, kc1, kf1, -⟩ := hz27.rd
        have HT2 := Lib.hid ht2
        clear ht2
        go_wp2_with fail
        refine (EQ.out _ _ _ HT.out HT2.out).mono ?_; rintro e uz28 ⟨rfl, bz29⟩
        have hz30 := hz27.below bz29
        clear hz27 bz29 kc0 kf0 kc1 kf1
        have Hz31 := Lib.hid hz30.1
        clear hz30
        go_wp2_with fail
        go_ret
        exact ⟨rfl, Hz31.out⟩
set_option maxRecDepth 20000 in
set_option maxHeartbeats 16000000 in
theorem sealOkLaw_calls (key cnt mac : Int) (A C : Option Addr) (l : List Int) (cap : Nat) (L : List Tru) (cap2 : Nat) (w : World) (hn : l.length ≤ maxLen) (hA : Ints w .i64 w.heap.size A l) (hm : L.length ≤ maxLen) (hC : Trs w w.heap.size C L) (hI : TrusI L) (hc0 : I64 cnt) :
    Calls Try.prog 5 #[.agg #[.int .i64 key, .slice A l.length cap], .agg #[.int .i64 cnt, .slice C L.length cap2, .int .i64 mac]] w fun e w' => e = .returned (.bool true) ∧ Below w.heap.size w w' := by
  have K0 := Lib.hid (show Kept w [(w.heap.size + 1, 44, #[.int .i64 cnt, .slice C L.length cap2, .int .i64 mac]), (w.heap.size, 24, #[.int .i64 key, .slice A l.length cap])] _ from (((Kept.refl w).put1 _ _ #[.int .i64 key, .slice A l.length cap] rfl).put1 _ _ #[.int .i64 cnt, .slice C L.length cap2, .int .i64 mac] (by simp)))
  by_cases hs : 1048576 < l.length
  · have S := Lib.hid (fun w => szPlan_no key A l.length cap w hn hs)
    clear hA hs hC hI hc0
    go_enter Try.func5, Try.ntmps5
    go_wp2_with fail
    refine (S.out _).mono ?_; rintro e w1 ⟨rfl, b1⟩
    have B1 := Lib.hid (K0.out.below b1).1
    clear b1
    go_wp2_with fail
    go_ret
    exact ⟨rfl, B1.out⟩
  · have hs' : l.length ≤ 1048576 := by omega
    have S := Lib.hid (fun w => szPlan_yes key A l.length cap w hs')
    have hg : ¬ (1048576 : Int) - l.length < 0 := by omega
    by_cases ht : 1048576 < l.length + L.length
    · have ST := Lib.hid (fun u => szSeal_calls cnt mac C L.length cap2 (1048576 - l.length) u (by omega) (by omega) hm)
      rw [if_neg (by omega)] at ST
      clear hA hs hs' hC hI hc0
      go_enter Try.func5, Try.ntmps5
      go_wp2_with fail
      refine (S.out _).mono ?_; rintro e w1 ⟨rfl, b1⟩
      have k1 := K0.out.below b1
      clear b1 S K0
      obtain ⟨kc0, kf0, kc1, kf1, -⟩ := k1.rd
      go_wp2_with fail
      refine (ST.out _).mono ?_; rintro e w2 ⟨rfl, b2⟩
      have B2 := Lib.hid (k1.below b2).1
      clear b2
      go_wp2_with fail
      go_ret
      exact ⟨rfl, B2.out⟩
    · have hN : L.length ≤ 1048576 := by omega
      have ST := Lib.hid (fun u => szSeal_calls cnt mac C L.length cap2 (1048576 - l.length) u (by omega) (by omega) hm)
      rw [if_pos (by omega)] at ST
      have hg2 : ¬ (1048576 : Int) - l.length - L.length < 0 := by omega
      have T := Lib.hid (fun v hb => toPlan_calls key A l cap v hs' ((hA.below (show Below w.heap.size w v from hb) (Nat.le_refl _)).more hb.size))
      have TS := Lib.hid (fun v hb => toSeal_calls cnt mac C L cap2 v hN ((hC.below (show Below w.heap.size w v from hb) (Nat.le_refl _)).more hb.size))
      have Q := Lib.hid (fun A C w hA hC => eqPlan_same key A C l l.length l.length w hs' hA hC)
      have QS := Lib.hid (fun A C u hA hC => eqSeal_same cnt mac A C L L.length L.length u hm hA hC)
      have DS := Lib.hid (fun D E u hD hE => specSealOk_calls key D l l.length cnt E L L.length mac u hn hD hN hE hI hc0)
      have CI := Lib.hid (fun D E u hD hE => implSealOk_calls key D l l.length (Nat.le_refl _) cnt E L L.length mac u hs' hD hN hE hI hc0)
      generalize sealB key l cnt L mac = z at DS CI
      have hz : (z != z) = false := by simp
      clear hA hs hC hI hc0 hn hm ht
      have k0 := K0.out
      clear K0
      go_enter Try.func5, Try.ntmps5
      go_wp2_with fail
      refine (S.out _).mono ?_; rintro e uz1 ⟨rfl, bz2⟩
      have hz3 := k0.below bz2
      clear k0 bz2
      obtain ⟨kc0, kf0, kc1, kf1, -⟩ := hz3.rd
      go_wp2_with fail
      refine (ST.out _).mono ?_; rintro e uz4 ⟨rfl, bz5⟩
      have hz6 := hz3.below bz5
      clear hz3 bz5 kc0 kf0 kc1 kf1
      obtain ⟨kc0, kf0, kc1, kf1, -⟩ := hz6.rd
      clear S ST
      go_upto_region 8 with fail
      have HK := Lib.hid hz6.drew
      clear hz6 kc0 kf0 kc1 kf1
      refine wp_region_free [false, true, false, true, true, false] (fun i v => (i = 1 → ∃ G, v = .agg #[.int .i64 key, .slice G l.length l.length]) ∧ (i = 3 → ∃ G, v = .agg #[.int .i64 cnt, .slice G L.length L.length, .int .i64 mac]) ∧ (i = 4 → v = .bool z)) (fun D γ u => AndC (AndC (fun _ _ u => Kept w [(w.heap.size + 1, 44, #[.int .i64 cnt, .slice C L.length cap2, .int .i64 mac]), (w.heap.size, 24, #[.int .i64 key, .slice A l.length cap])] u) (HoldC 1 4 (PlanY key l))) (HoldC 3 4 (SealY cnt mac L)) D γ u) (by kernel_rfl) (by kernel_rfl) (fun γ => by kernel_rfl) (fun D γ γ' w ha h => ⟨⟨h.1.1, h.1.2.loc ha⟩, h.2.loc ha⟩) (fun i => ?inh) (fun γ => ⟨⟨HK.out, HoldC.start⟩, HoldC.start⟩) (fun γ hγ => ?_)
      case inh =>
        by_cases h1 : i = 1
        · subst h1; exact ⟨.agg #[.int .i64 key, .slice none l.length l.length], fun _ => ⟨none, rfl⟩, fun e => (by cases e), fun e => (by cases e)⟩
        · by_cases h3 : i = 3
          · subst h3; exact ⟨.agg #[.int .i64 cnt, .slice none L.length L.length, .int .i64 mac], fun e => (by cases e), fun _ => ⟨none, rfl⟩, fun e => (by cases e)⟩
          · exact ⟨.bool z, fun e => absurd e h1, fun e => absurd e h3, fun _ => rfl⟩
      obtain ⟨G, g1⟩ := (hγ 1 rfl).1 rfl
      obtain ⟨E, g3⟩ := (hγ 3 rfl).2.1 rfl
      have g4 : γ 4 = .bool z := (hγ 4 rfl).2.2 rfl
      clear HK
      apply Exists.intro
      refine ⟨fun D => ?_, ?_, ?_⟩
      · simp only [hushL, cond_true, cond_false, Nat.reduceAdd, g1, g3, g4]
        iterate 6 (first
          | go_big_quiet_skip
          | (go_big_quiet_want
             go_big_quiet_op
             first
               | go_big_quiet_on
               | (apply Exists.intro
                  refine ⟨fun u hu => ?_, ?_⟩
                  · first
                      | with_reducible rfl
                      | (obtain ⟨kc0, kf0, kc1, kf1, -⟩ := hu.1.1.rd; go_simp; first | done | with_reducible rfl)
                  go_big_quiet_on)))
        exact wpQuiet_nil rfl
      · simp only [freeOk, Nat.reduceAdd]
        refine ⟨fun D u hD hd hu => ?_, fun D u hD hd hu => ?_, fun D u hD hd hu => ?_, trivial⟩
        · exact steps_call ((T.out u hu.1.1.1).mono fun e w' ⟨X, he, hX, hb⟩ => ⟨_, he, ⟨fun _ => ⟨X, rfl⟩, fun e => (by cases e), fun e => (by cases e)⟩, ⟨⟨hu.1.1.below hb, HoldC.put ⟨X, rfl, hX⟩⟩, hu.2.step (SealY.below cnt mac L) hb (by decide)⟩⟩) rfl rfl rfl rfl (by kernel_rfl)
        · exact steps_call ((TS.out u hu.1.1.1).mono fun e w' ⟨X, he, hX, hb⟩ => ⟨_, he, ⟨fun e => (by cases e), fun _ => ⟨X, rfl⟩, fun e => (by cases e)⟩, ⟨⟨hu.1.1.below hb, hu.1.2.step (PlanY.below key l) hb (by decide)⟩, HoldC.put ⟨X, rfl, hX⟩⟩⟩) rfl rfl rfl rfl (by kernel_rfl)
        · obtain ⟨G9, e9, hG⟩ := hu.1.2 (hd { on := 1, ground := Ground.data } (by simp) rfl rfl) hD
          rw [g1] at e9
          obtain rfl : G = G9 := by simpa using e9
          obtain ⟨E9, e8, hE⟩ := hu.2 (hd { on := 3, ground := Ground.data } (by simp) rfl rfl) hD
          rw [g3] at e8
          obtain rfl : E = E9 := by simpa using e8
          exact steps_call ((DS.out G E u hG hE).mono fun e w' ⟨he, hb⟩ => ⟨_, he, ⟨fun e => (by cases e), fun e => (by cases e), fun _ => rfl⟩, ⟨⟨hu.1.1.below hb, HoldC.used⟩, HoldC.used⟩⟩) rfl rfl rfl rfl (by kernel_rfl)
      · intro D uf hD hu
        have hf := hu.1.1
        clear hu hD hγ
        obtain ⟨kc0, kf0, kc1, kf1, -⟩ := hf.rd
        go_wp2_with fail
        refine (T.out _ hf.1).mono ?_; rintro e uz7 ⟨G2, rfl, hG, bz8⟩
        have hz9 := hf.below bz8
        clear hf bz8 kc0 kf0 kc1 kf1
        have lkz10_0 : w.heap.size + 1 < uz7.heap.size := hz9.lt (x := (w.heap.size + 1, 44, #[.int .i64 cnt, .slice C L.length cap2, .int .i64 mac])) (by simp)
        have lkz10_1 : w.heap.size < uz7.heap.size := hz9.lt (x := (w.heap.size, 24, #[.int .i64 key, .slice A l.length cap])) (by simp)
        have kz10 := hz9.put1 uz7.heap.size 29 #[.int .i64 key, .slice G2 l.length l.length] rfl
        have hg_ := Ints.grow hG (box_below uz7 (.cells #[.int .i64 key, .slice G2 l.length l.length] 29))
        clear hz9
        go_upto_region 10 with fail
        generalize World.alloc _ _ = wa at kz10 hg_ ⊢
        have HG := Lib.hid hg_
        clear hg_
        obtain ⟨kc0, kf0, kc1, kf1, kc2, kf2, -⟩ := kz10.rd
        clear hG
        go_wp2_with fail
        refine (TS.out _ kz10.1).mono ?_; rintro e uz11 ⟨E2, rfl, ht, bz12⟩
        have hz13 := kz10.below bz12
        have hg_ := Ints.grow HG.out bz12
        clear kz10 bz12 HG kc0 kf0 kc1 kf1 kc2 kf2
        have HG := Lib.hid hg_
        clear hg_
        have lkz14_0 : uz7.heap.size < uz11.heap.size := hz13.lt (x := (uz7.heap.size, 29, #[.int .i64 key, .slice G2 l.length l.length])) (by simp)
        have lkz14_1 : w.heap.size + 1 < uz11.heap.size := hz13.lt (x := (w.heap.size + 1, 44, #[.int .i64 cnt, .slice C L.length cap2, .int .i64 mac])) (by simp)
        have lkz14_2 : w.heap.size < uz11.heap.size := hz13.lt (x := (w.heap.size, 24, #[.int .i64 key, .slice A l.length cap])) (by simp)
        have kz14 := hz13.put1 uz11.heap.size 37 #[.int .i64 cnt, .slice E2 L.length L.length, .int .i64 mac] rfl
        have ht_ := Sls.grow ht (box_below uz11 (.cells #[.int .i64 cnt, .slice E2 L.length L.length, .int .i64 mac] 37))
        have hg_ := Ints.grow HG.out (box_below uz11 (.cells #[.int .i64 cnt, .slice E2 L.length L.length, .int .i64 mac] 37))
        clear hz13
        go_upto_region 11 with fail
        generalize World.alloc _ _ = wb at kz14 ht_ hg_ ⊢
        have HT := Lib.hid ht_
        clear ht_
        have HG := Lib.hid hg_
        clear hg_
        obtain ⟨kc0, kf0, kc1, kf1, kc2, kf2, kc3, kf3, -⟩ := kz14.rd
        clear ht
        go_wp2_with fail
        refine (CI.out _ _ _ HG.out HT.out).mono ?_; rintro e uz15 ⟨rfl, bz16⟩
        have hz17 := kz14.below bz16
        have hg_ := Ints.grow HG.out bz16
        have ht_ := Sls.grow HT.out bz16
        clear kz14 bz16 HG HT kc0 kf0 kc1 kf1 kc2 kf2 kc3 kf3
        have HG := Lib.hid hg_
        clear hg_
        have HT := Lib.hid ht_
        clear ht_
        obtain ⟨kc0, kf0, kc1, kf1, kc2, kf2, kc3, kf3, -⟩ := hz17.rd
        go_upto_region 14 with fail
        have Kz18 := Lib.hid hz17
        clear hz17
        go_region_with (first
          | (go_at_call 9; refine (T.out _ Kz18.out.drew.1).mono ?_; rintro e wx ⟨Cx, rfl, hx, bx⟩; have kx := Kz18.out.drew.below bx; obtain ⟨mc0, mf0, mc1, mf1, mc2, mf2, mc3, mf3, -⟩ := kx.rd; have GX := Lib.hid (Ints.grow (show Ints uz15.drew .i64 uz15.drew.heap.size G2 l from HG.out) bx); have BX := Lib.hid bx; have HX := Lib.hid hx; clear kx hx bx)
          | (go_at_call 12; refine (Q.out _ _ _ GX.out HX.out).mono ?_; rintro e wy ⟨rfl, hy⟩; have BY := Lib.hid (BX.out.trans (hy.mono BX.out.size)); clear hy))
        all_goals
          have hz19 := Kz18.out.drew.below BY.out
          have ht_ := Sls.grow (show Trs uz15.drew uz15.drew.heap.size E2 L from HT.out) BY.out
          clear Kz18 HT BX GX HX
          have HT := Lib.hid ht_
          clear ht_
          go_upto_region 16 with fail
          clear BY
          obtain ⟨kc0, kf0, kc1, kf1, kc2, kf2, kc3, kf3, -⟩ := hz19.rd
          have Kz20 := Lib.hid hz19
          clear hz19
          go_region_with (first
            | (go_at_call 23; refine (TS.out _ Kz20.out.drew.1).mono ?_; rintro e wx2 ⟨Cx2, rfl, hx, bx⟩; have kx := Kz20.out.drew.below bx; obtain ⟨mc0, mf0, mc1, mf1, mc2, mf2, mc3, mf3, -⟩ := kx.rd; have GX := Lib.hid (Sls.grow (show Trs wy.drew wy.drew.heap.size E2 L from HT.out) bx); have BX := Lib.hid (Kz20.out.drew.below bx).1; have HX := Lib.hid hx; clear kx hx bx)
            | (go_at_call 16; refine (QS.out _ _ _ GX.out HX.out).mono ?_; rintro e wy2 ⟨rfl, hy⟩; have BY := Lib.hid (BX.out.trans (hy.mono BX.out.size)); clear hy))
          all_goals
            go_wp2_with fail
            go_ret
            exact ⟨rfl, BY.out⟩
end Go.Proofs.Ytodmponjjhokdaa.Mx

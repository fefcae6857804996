import Derived.Test.YtjbnknccnhdapaaE08
import Derived.Test.YtjbnknccnhdapaaE09
import Derived.Test.YtjbnknccnhdapaaE05
import Derived.Test.YtjbnknccnhdapaaE06
namespace Go.Proofs.Ytjbnknccnhdapaa.Mx
open Go.ChangeShapes Go.WideShapes Go.ChangeAt Go.RowKit
set_option linter.unusedVariables false
def PlanY (key : Int) (l : List Int) (v : Value) (u : World) : Prop := ∃ G, v = .agg #[.int .i64 key, .slice G l.length l.length] ∧ Ints u .i64 u.heap.size G l
theorem PlanY.below (key : Int) (l : List Int) : ∀ v u u', Below u.heap.size u u' → PlanY key l v u → PlanY key l v u' := fun v u u' hb ⟨G, e, hI⟩ => ⟨G, e, (hI.below hb (Nat.le_refl _)).more hb.size⟩
theorem Ints.grow {u v : World} {A : Option Addr} {l : List Int} (h : Ints u .i64 u.heap.size A l) (hb : Below u.heap.size u v) : Ints v .i64 v.heap.size A l := (h.below hb (Nat.le_refl _)).more hb.size
def AnsSlotOk : Prop := ∀ (key : Int) (A : Option Addr) (l : List Int) (cap : Nat) (cnt : Int) (B : Option Addr) (L : List Tru) (tc : Nat) (mac : Int) (C : Option Addr) (M : List Ce) (cc : Nat) (w : World), l.length ≤ cap → l.length ≤ 1048576 → Ints w .i64 w.heap.size A l → L.length ≤ 1048576 → Trs w w.heap.size B L → M.length ≤ 1048576 → Cls w w.heap.size C M → TrusI L → I64 cnt →
  Calls Try.prog 10 #[.agg #[.int .i64 key, .slice A l.length cap], .agg #[.int .i64 cnt, .slice B L.length tc, .int .i64 mac, .slice C M.length cc]] w fun e w' => e = .returned (.bool (slotB key l cnt L mac M)) ∧ Below w.heap.size w w'
def AnsChosen : Prop := ∀ (key : Int) (A D : Option Addr) (l : List Int) (cap : Nat) (S : List SlN) (cap2 : Nat) (n : Int) (w : World), l.length ≤ cap → l.length ≤ 1048576 → Ints w .i64 w.heap.size A l → S.length ≤ cap2 → S.length ≤ 1048576 → Slots w w.heap.size D S → (∀ i, i < S.length → (S.getD i default).Fits) → I64 n →
  Calls Try.prog 16 #[.agg #[.int .i64 key, .slice A l.length cap], .slice D S.length cap2, .int .i64 n] w fun e w' => e = .returned (.int .i64 (chosenOf key l S n)) ∧ Below w.heap.size w w'
def SlG (u : World) (E D : Option Addr) (L : List Tru) (M : List Ce) : Prop := Trs u u.heap.size E L ∧ Cls u u.heap.size D M
theorem SlG.grow {u v : World} {E D : Option Addr} {L : List Tru} {M : List Ce} (h : SlG u E D L M) (hb : Below u.heap.size u v) : SlG v E D L M := ⟨Sls.grow h.1 hb, Sls.grow h.2 hb⟩
def SlotY (cnt mac : Int) (L : List Tru) (M : List Ce) (v : Value) (u : World) : Prop := ∃ G E, v = .agg #[.int .i64 cnt, .slice G L.length L.length, .int .i64 mac, .slice E M.length M.length] ∧ SlG u G E L M
theorem SlotY.below (cnt mac : Int) (L : List Tru) (M : List Ce) : ∀ v u u', Below u.heap.size u u' → SlotY cnt mac L M v u → SlotY cnt mac L M v u' := fun v u u' hb ⟨G, E, e, hI⟩ => ⟨G, E, e, hI.grow hb⟩
theorem toSlot_cp (cnt mac : Int) (B C : Option Addr) (L : List Tru) (M : List Ce) (tc cc : Nat) (w : World) (hn : L.length ≤ 1048576) (hm : M.length ≤ 1048576) (hB : Trs w w.heap.size B L) (hC : Cls w w.heap.size C M) :
    Calls Try.prog 9 #[.agg #[.int .i64 cnt, .slice B L.length tc, .int .i64 mac, .slice C M.length cc]] w fun e w' => ∃ G E, e = .returned (.agg #[.int .i64 cnt, .slice G L.length L.length, .int .i64 mac, .slice E M.length M.length]) ∧ SlG w' G E L M ∧ Below w.heap.size w w' := by
  refine (toSlot_calls cnt mac B C L M tc cc w hn hm hB hC).mono ?_
  rintro e w' ⟨g, h, rfl, hx, hb⟩
  exact ⟨_, _, rfl, ⟨hx.2.2.1, hx.2.2.2⟩, hb⟩
set_option maxRecDepth 20000 in
set_option maxHeartbeats 16000000 in
theorem slotOkLaw_calls (H : AnsSlotOk) (key cnt mac : Int) (A C P : Option Addr) (l : List Int) (cap : Nat) (L : List Tru) (cap2 : Nat) (M : List Ce) (cap3 : Nat) (w : World) (hn : l.length ≤ maxLen) (hA : Ints w .i64 w.heap.size A l) (hm : L.length ≤ maxLen) (hC : Trs w w.heap.size C L) (hI : TrusI L) (hc0 : I64 cnt) (hq : M.length ≤ maxLen) (hP : Cls w w.heap.size P M) :
    Calls Try.prog 3 #[.agg #[.int .i64 key, .slice A l.length cap], .agg #[.int .i64 cnt, .slice C L.length cap2, .int .i64 mac, .slice P M.length cap3]] w fun e w' => e = .returned (.bool true) ∧ Below w.heap.size w w' := by
  have K0 := Lib.hid (show Kept w [(w.heap.size + 1, 30, #[.int .i64 cnt, .slice C L.length cap2, .int .i64 mac, .slice P M.length cap3]), (w.heap.size, 24, #[.int .i64 key, .slice A l.length cap])] _ from (((Kept.refl w).put1 _ _ #[.int .i64 key, .slice A l.length cap] rfl).put1 _ _ #[.int .i64 cnt, .slice C L.length cap2, .int .i64 mac, .slice P M.length cap3] (by simp)))
  by_cases hs : 1048576 < l.length
  · have S := Lib.hid (fun w => szPlan_no key A l.length cap w hn hs)
    clear hA hs hC hI hc0 hP H
    go_enter Try.func3, Try.ntmps3
    go_wp2_with fail
    refine (S.out _).mono ?_; rintro e w1 ⟨rfl, b1⟩
    have B1 := Lib.hid (K0.out.below b1).1
    clear b1
    go_wp2_with fail
    go_ret
    exact ⟨rfl, B1.out⟩
  · have hs' : l.length ≤ 1048576 := by omega
    have S := Lib.hid (fun w => szPlan_yes key A l.length cap w hs')
    have hg : ¬ (1048576 : Int) - l.length < 0 := by omega
    have ST := Lib.hid (fun u => szSlot_calls cnt mac C P L.length cap2 M.length cap3 (1048576 - l.length) u (by omega) (by omega) hm hq)
    by_cases ht : 1048576 < l.length + L.length + M.length
    · rw [if_neg (by omega)] at ST
      clear hA hs hs' hC hI hc0 hP H
      go_enter Try.func3, Try.ntmps3
      go_wp2_with fail
      refine (S.out _).mono ?_; rintro e w1 ⟨rfl, b1⟩
      have k1 := K0.out.below b1
      clear b1 S K0
      obtain ⟨kc0, kf0, kc1, kf1, -⟩ := k1.rd
      go_wp2_with fail
      refine (ST.out _).mono ?_; rintro e w2 ⟨rfl, b2⟩
      have B2 := Lib.hid (k1.below b2).1
      clear b2
      go_wp2_with fail
      go_ret
      exact ⟨rfl, B2.out⟩
    · have hN : L.length ≤ 1048576 := by omega
      have hM : M.length ≤ 1048576 := by omega
      rw [if_pos (by omega)] at ST
      have hg2 : ¬ (1048576 : Int) - l.length - L.length - M.length < 0 := by omega
      have T := Lib.hid (fun v hb => toPlan_calls key A l cap v hs' ((hA.below (show Below w.heap.size w v from hb) (Nat.le_refl _)).more hb.size))
      have TS := Lib.hid (fun v hb => toSlot_cp cnt mac C P L M cap2 cap3 v hN hM ((hC.below (show Below w.heap.size w v from hb) (Nat.le_refl _)).more hb.size) ((hP.below (show Below w.heap.size w v from hb) (Nat.le_refl _)).more hb.size))
      have Q := Lib.hid (fun A C w hA hC => eqPlan_same key A C l l.length l.length w hs' hA hC)
      have QS := Lib.hid (fun E E' F F' u (h : SlG u E F L M) (h' : SlG u E' F' L M) => eqSlot_same cnt mac E E' F F' L M L.length L.length M.length M.length u hm hq h.1 h'.1 h.2 h'.2)
      have DS := Lib.hid (fun X E F u hX (hE : SlG u E F L M) => specSlotOk_calls key X l l.length cnt E L L.length mac F M M.length u hn hX hN hE.1 hI hc0 hM hE.2)
      have CI := Lib.hid (fun X E F u hX (hE : SlG u E F L M) => H key X l l.length cnt E L L.length mac F M M.length u (Nat.le_refl _) hs' hX hN hE.1 hM hE.2 hI hc0)
      generalize slotB key l cnt L mac M = z at DS CI
      have hz : (z != z) = false := by simp
      clear hA hs hC hI hc0 hn hm ht hq hP H hM
      have k0 := K0.out
      clear K0
      go_enter Try.func3, Try.ntmps3
      go_wp2_with fail
      refine (S.out _).mono ?_; rintro e uz1 ⟨rfl, bz2⟩
      have hz3 := k0.below bz2
      clear k0 bz2
      obtain ⟨kc0, kf0, kc1, kf1, -⟩ := hz3.rd
      go_wp2_with fail
      refine (ST.out _).mono ?_; rintro e uz4 ⟨rfl, bz5⟩
      have hz6 := hz3.below bz5
      clear hz3 bz5 kc0 kf0 kc1 kf1
      obtain ⟨kc0, kf0, kc1, kf1, -⟩ := hz6.rd
      clear S ST
      go_upto_region 8 with fail
      have HK := Lib.hid hz6.drew
      clear hz6 kc0 kf0 kc1 kf1
      refine wp_region_free [false, true, false, true, true, false] (fun i v => (i = 1 → ∃ G, v = .agg #[.int .i64 key, .slice G l.length l.length]) ∧ (i = 3 → ∃ G E, v = .agg #[.int .i64 cnt, .slice G L.length L.length, .int .i64 mac, .slice E M.length M.length]) ∧ (i = 4 → v = .bool z)) (fun D γ u => AndC (AndC (fun _ _ u => Kept w [(w.heap.size + 1, 30, #[.int .i64 cnt, .slice C L.length cap2, .int .i64 mac, .slice P M.length cap3]), (w.heap.size, 24, #[.int .i64 key, .slice A l.length cap])] u) (HoldC 1 4 (PlanY key l))) (HoldC 3 4 (SlotY cnt mac L M)) D γ u) (by kernel_rfl) (by kernel_rfl) (fun γ => by kernel_rfl) (fun D γ γ' w ha h => ⟨⟨h.1.1, h.1.2.loc ha⟩, h.2.loc ha⟩) (fun i => ?inh) (fun γ => ⟨⟨HK.out, HoldC.start⟩, HoldC.start⟩) (fun γ hγ => ?_)
      case inh =>
        by_cases h1 : i = 1
        · subst h1; exact ⟨.agg #[.int .i64 key, .slice none l.length l.length], fun _ => ⟨none, rfl⟩, fun e => (by cases e), fun e => (by cases e)⟩
        · by_cases h3 : i = 3
          · subst h3; exact ⟨.agg #[.int .i64 cnt, .slice none L.length L.length, .int .i64 mac, .slice none M.length M.length], fun e => (by cases e), fun _ => ⟨none, none, rfl⟩, fun e => (by cases e)⟩
          · exact ⟨.bool z, fun e => absurd e h1, fun e => absurd e h3, fun _ => rfl⟩
      obtain ⟨G, g1⟩ := (hγ 1 rfl).1 rfl
      obtain ⟨E, F, g3⟩ := (hγ 3 rfl).2.1 rfl
      have g4 : γ 4 = .bool z := (hγ 4 rfl).2.2 rfl
      clear HK
      apply Exists.intro
      refine ⟨fun D => ?_, ?_, ?_⟩
      · simp only [hushL, cond_true, cond_false, Nat.reduceAdd, g1, g3, g4]
        iterate 6 (first
          | go_big_quiet_skip
          | (go_big_quiet_want
             go_big_quiet_op
             first
               | go_big_quiet_on
               | (apply Exists.intro
                  refine ⟨fun u hu => ?_, ?_⟩
                  · first
                      | with_reducible rfl
                      | (obtain ⟨kc0, kf0, kc1, kf1, -⟩ := hu.1.1.rd; go_simp; first | done | with_reducible rfl)
                  go_big_quiet_on)))
        exact wpQuiet_nil rfl
      · simp only [freeOk, Nat.reduceAdd]
        refine ⟨fun D u hD hd hu => ?_, fun D u hD hd hu => ?_, fun D u hD hd hu => ?_, trivial⟩
        · exact steps_call ((T.out u hu.1.1.1).mono fun e w' ⟨X, he, hX, hb⟩ => ⟨_, he, ⟨fun _ => ⟨X, rfl⟩, fun e => (by cases e), fun e => (by cases e)⟩, ⟨⟨hu.1.1.below hb, HoldC.put ⟨X, rfl, hX⟩⟩, hu.2.step (SlotY.below cnt mac L M) hb (by decide)⟩⟩) rfl rfl rfl rfl (by kernel_rfl)
        · exact steps_call ((TS.out u hu.1.1.1).mono fun e w' ⟨X, Y, he, hX, hb⟩ => ⟨_, he, ⟨fun e => (by cases e), fun _ => ⟨X, Y, rfl⟩, fun e => (by cases e)⟩, ⟨⟨hu.1.1.below hb, hu.1.2.step (PlanY.below key l) hb (by decide)⟩, HoldC.put ⟨X, Y, rfl, hX⟩⟩⟩) rfl rfl rfl rfl (by kernel_rfl)
        · obtain ⟨G9, e9, hG⟩ := hu.1.2 (hd { on := 1, ground := Ground.data } (by simp) rfl rfl) hD
          rw [g1] at e9
          obtain rfl : G = G9 := by simpa using e9
          obtain ⟨E9, F9, e8, hE⟩ := hu.2 (hd { on := 3, ground := Ground.data } (by simp) rfl rfl) hD
          rw [g3] at e8
          obtain ⟨rfl, rfl⟩ : E = E9 ∧ F = F9 := by simpa using e8
          exact steps_call ((DS.out G E F u hG hE).mono fun e w' ⟨he, hb⟩ => ⟨_, he, ⟨fun e => (by cases e), fun e => (by cases e), fun _ => rfl⟩, ⟨⟨hu.1.1.below hb, HoldC.used⟩, HoldC.used⟩⟩) rfl rfl rfl rfl (by kernel_rfl)
      · intro D uf hD hu
        have hf := hu.1.1
        clear hu hD hγ
        obtain ⟨kc0, kf0, kc1, kf1, -⟩ := hf.rd
        go_wp2_with fail
        refine (T.out _ hf.1).mono ?_; rintro e uz7 ⟨G2, rfl, hG, bz8⟩
        have hz9 := hf.below bz8
        clear hf bz8 kc0 kf0 kc1 kf1
        have lkz10_0 : w.heap.size + 1 < uz7.heap.size := hz9.lt (x := (w.heap.size + 1, 30, #[.int .i64 cnt, .slice C L.length cap2, .int .i64 mac, .slice P M.length cap3])) (by simp)
        have lkz10_1 : w.heap.size < uz7.heap.size := hz9.lt (x := (w.heap.size, 24, #[.int .i64 key, .slice A l.length cap])) (by simp)
        have kz10 := hz9.put1 uz7.heap.size 34 #[.int .i64 key, .slice G2 l.length l.length] rfl
        have hg_ := Ints.grow hG (box_below uz7 (.cells #[.int .i64 key, .slice G2 l.length l.length] 34))
        clear hz9
        go_upto_region 10 with fail
        generalize World.alloc _ _ = wa at kz10 hg_ ⊢
        have HG := Lib.hid hg_
        clear hg_
        obtain ⟨kc0, kf0, kc1, kf1, kc2, kf2, -⟩ := kz10.rd
        clear hG
        go_wp2_with fail
        refine (TS.out _ kz10.1).mono ?_; rintro e uz11 ⟨E2, F2, rfl, ht, bz12⟩
        have hz13 := kz10.below bz12
        have hg_ := Ints.grow HG.out bz12
        clear kz10 bz12 HG kc0 kf0 kc1 kf1 kc2 kf2
        have HG := Lib.hid hg_
        clear hg_
        have lkz14_0 : uz7.heap.size < uz11.heap.size := hz13.lt (x := (uz7.heap.size, 34, #[.int .i64 key, .slice G2 l.length l.length])) (by simp)
        have lkz14_1 : w.heap.size + 1 < uz11.heap.size := hz13.lt (x := (w.heap.size + 1, 30, #[.int .i64 cnt, .slice C L.length cap2, .int .i64 mac, .slice P M.length cap3])) (by simp)
        have lkz14_2 : w.heap.size < uz11.heap.size := hz13.lt (x := (w.heap.size, 24, #[.int .i64 key, .slice A l.length cap])) (by simp)
        have kz14 := hz13.put1 uz11.heap.size 41 #[.int .i64 cnt, .slice E2 L.length L.length, .int .i64 mac, .slice F2 M.length M.length] rfl
        have ht_ := SlG.grow ht (box_below uz11 (.cells #[.int .i64 cnt, .slice E2 L.length L.length, .int .i64 mac, .slice F2 M.length M.length] 41))
        have hg_ := Ints.grow HG.out (box_below uz11 (.cells #[.int .i64 cnt, .slice E2 L.length L.length, .int .i64 mac, .slice F2 M.length M.length] 41))
        clear hz13
        go_upto_region 11 with fail
        generalize World.alloc _ _ = wb at kz14 ht_ hg_ ⊢
        have HT := Lib.hid ht_
        clear ht_
        have HG := Lib.hid hg_
        clear hg_
        obtain ⟨kc0, kf0, kc1, kf1, kc2, kf2, kc3, kf3, -⟩ := kz14.rd
        clear ht
        go_wp2_with fail
        refine (CI.out _ _ _ _ HG.out HT.out).mono ?_; rintro e uz15 ⟨rfl, bz16⟩
        have hz17 := kz14.below bz16
        have hg_ := Ints.grow HG.out bz16
        have ht_ := SlG.grow HT.out bz16
        clear kz14 bz16 HG HT kc0 kf0 kc1 kf1 kc2 kf2 kc3 kf3
        have HG := Lib.hid hg_
        clear hg_
        have HT := Lib.hid ht_
        clear ht_
        obtain ⟨kc0, kf0, kc1, kf1, kc2, kf2, kc3, kf3, -⟩ := hz17.rd
        go_upto_region 14 with fail
        have Kz18 := Lib.hid hz17
        clear hz17
        go_region_with (first
          | (go_at_call 8; refine (T.out _ Kz18.out.drew.1).mono ?_; rintro e wx ⟨Cx, rfl, hx, bx⟩; have kx := Kz18.out.drew.below bx; obtain ⟨mc0, mf0, mc1, mf1, mc2, mf2, mc3, mf3, -⟩ := kx.rd; have GX := Lib.hid (Ints.grow (show Ints uz15.drew .i64 uz15.drew.heap.size G2 l from HG.out) bx); have BX := Lib.hid bx; have HX := Lib.hid hx; clear kx hx bx)
          | (go_at_call 11; refine (Q.out _ _ _ GX.out HX.out).mono ?_; rintro e wy ⟨rfl, hy⟩; have BY := Lib.hid (BX.out.trans (hy.mono BX.out.size)); clear hy))
        all_goals
          have hz19 := Kz18.out.drew.below BY.out
          have ht_ := SlG.grow (show SlG uz15.drew E2 F2 L M from HT.out) BY.out
          clear Kz18 HT BX GX HX
          have HT := Lib.hid ht_
          clear ht_
          go_upto_region 16 with fail
          clear BY
          obtain ⟨kc0, kf0, kc1, kf1, kc2, kf2, kc3, kf3, -⟩ := hz19.rd
          have Kz20 := Lib.hid hz19
          clear hz19
          go_region_with (first
            | (go_at_call 9; refine (TS.out _ Kz20.out.drew.1).mono ?_; rintro e wx2 ⟨Cx2, Dx2, rfl, hx, bx⟩; have kx := Kz20.out.drew.below bx; obtain ⟨mc0, mf0, mc1, mf1, mc2, mf2, mc3, mf3, -⟩ := kx.rd; have GX := Lib.hid (SlG.grow (show SlG wy.drew E2 F2 L M from HT.out) bx); have BX := Lib.hid (Kz20.out.drew.below bx).1; have HX := Lib.hid hx; clear kx hx bx)
            | (go_at_call 12; refine (QS.out _ _ _ _ _ GX.out HX.out).mono ?_; rintro e wy2 ⟨rfl, hy⟩; have BY := Lib.hid (BX.out.trans (hy.mono BX.out.size)); clear hy))
          all_goals
            go_wp2_with fail
            go_ret
            exact ⟨rfl, BY.out⟩
set_option maxRecDepth 20000 in
set_option maxHeartbeats 16000000 in
theorem chosenLaw_calls (H : AnsChosen) (key n : Int) (A D : Option Addr) (l : List Int) (cap : Nat) (S : List SlN) (cap2 : Nat) (w : World) (hn : l.length ≤ maxLen) (hA : Ints w .i64 w.heap.size A l) (hm : S.length ≤ maxLen) (hD : Slots w w.heap.size D S) (hS : ∀ i, i < S.length → (S.getD i default).In) (hc0 : I64 n) :
    Calls Try.prog 4 #[.agg #[.int .i64 key, .slice A l.length cap], .slice D S.length cap2, .int .i64 n] w fun e w' => e = .returned (.bool true) ∧ Below w.heap.size w w' := by
  have K0 := Lib.hid (show Kept w [(w.heap.size, 24, #[.int .i64 key, .slice A l.length cap])] _ from ((Kept.refl w).put1 _ _ #[.int .i64 key, .slice A l.length cap] rfl))
  by_cases hs : 1048576 < l.length
  · have SZ := Lib.hid (fun w => szPlan_no key A l.length cap w hn hs)
    clear hA hs hD hS hc0 H
    go_enter Try.func4, Try.ntmps4
    go_wp2_with fail
    refine (SZ.out _).mono ?_; rintro e w1 ⟨rfl, b1⟩
    have B1 := Lib.hid (K0.out.below b1).1
    clear b1
    go_wp2_with fail
    go_ret
    exact ⟨rfl, B1.out⟩
  · have hs' : l.length ≤ 1048576 := by omega
    have SZ := Lib.hid (fun w => szPlan_yes key A l.length cap w hs')
    have hg : ¬ (1048576 : Int) - l.length < 0 := by omega
    have ST := Lib.hid (fun u (hb : Below w.heap.size w u) => szSlotS_calls D S cap2 (1048576 - l.length) u (by omega) (by omega) hm ((hD.below hb (Nat.le_refl _)).more hb.size) (fun i hi => ⟨(hS i hi).2.2.2.2.1, (hS i hi).2.2.2.2.2⟩))
    have HF := Lib.hid (fun (h : SlShort S) i (hi : i < S.length) => show (S.getD i default).Fits from ⟨(h i hi).1, (h i hi).2, (hS i hi).2.2.1, (hS i hi).1⟩)
    have T := Lib.hid (fun v hb => toPlan_calls key A l cap v hs' ((hA.below (show Below w.heap.size w v from hb) (Nat.le_refl _)).more hb.size))
    have TT0 := Lib.hid (fun h1 h2 v hb => toSlotS_calls D S cap2 v h1 ((hD.below (show Below w.heap.size w v from hb) (Nat.le_refl _)).more hb.size) h2)
    have Q := Lib.hid (fun A C w hA hC => eqPlan_same key A C l l.length l.length w hs' hA hC)
    have EQ0 := Lib.hid (fun h2 A C u hA hC => eqSlotS_same A C S S.length S.length u hm h2 hA hC)
    have MS0 := Lib.hid (fun h1 hF G E u hG hE => specChosen_calls key G E l l.length S S.length n u hn hG h1 hE hF)
    have MI0 := Lib.hid (fun h1 hF G E u hG hE => H key G E l l.length S S.length n u (Nat.le_refl _) hs' hG (Nat.le_refl _) h1 hE hF hc0)
    generalize chosenOf key l S n = mo at MS0 MI0
    have hmo : (mo != mo) = false := by simp
    clear hA hs hD hS hc0 hn hm H
    have k0 := K0.out
    clear K0
    go_enter Try.func4, Try.ntmps4
    go_wp2_with fail
    refine (SZ.out _).mono ?_; rintro e uz1 ⟨rfl, bz2⟩
    have hz3 := k0.below bz2
    clear k0 bz2
    obtain ⟨kc0, kf0, -⟩ := hz3.rd
    go_wp2_with fail
    refine (ST.out _ hz3.1).mono ?_; rintro e uz4 ⟨r, rfl, hr, bz5⟩
    have hz6 := hz3.below bz5
    clear hz3 bz5 kc0 kf0
    obtain ⟨kc0, kf0, -⟩ := hz6.rd
    clear ST SZ
    rcases hr with rfl | ⟨r0, r1, hS1, hS2⟩
    · have BR := Lib.hid hz6.1
      go_wp2_with fail
      go_ret
      exact ⟨rfl, BR.out⟩
    · have hg2 : ¬ r < 0 := by omega
      have TT := Lib.hid (TT0.out hS1 hS2)
      have EQ := Lib.hid (EQ0.out hS2)
      have MS := Lib.hid (MS0.out hS1 (HF.out hS2))
      have MI := Lib.hid (MI0.out hS1 (HF.out hS2))
      clear TT0 EQ0 MS0 MI0 HF hS1 hS2
      go_wp2_with fail
      refine (T.out _ hz6.1).mono ?_; rintro e uz7 ⟨G, rfl, hG, bz8⟩
      have hz9 := hz6.below bz8
      clear hz6 bz8 kc0 kf0
      obtain ⟨kc0, kf0, -⟩ := hz9.rd
      have HG := Lib.hid hG
      clear hG
      go_wp2_with fail
      refine (TT.out _ hz9.1).mono ?_; rintro e uz10 ⟨g, rfl, ht, bz11⟩
      have hz12 := hz9.below bz11
      have hg_ := Ints.grow HG.out bz11
      clear hz9 bz11 HG kc0 kf0
      have HG := Lib.hid hg_
      clear hg_
      obtain ⟨kc0, kf0, -⟩ := hz12.rd
      have HT := Lib.hid ht
      clear ht
      go_wp2_with fail
      refine (MS.out _ _ _ HG.out HT.out).mono ?_; rintro e uz13 ⟨rfl, bz14⟩
      have hz15 := hz12.below bz14
      clear hz12 bz14 kc0 kf0
      obtain ⟨kc0, kf0, -⟩ := hz15.rd
      clear HG HT MS
      go_wp2_with fail
      refine (T.out _ hz15.1).mono ?_; rintro e uz16 ⟨G, rfl, hG, bz17⟩
      have hz18 := hz15.below bz17
      clear hz15 bz17 kc0 kf0
      have lkz19_0 : w.heap.size < uz16.heap.size := hz18.lt (x := (w.heap.size, 24, #[.int .i64 key, .slice A l.length cap])) (by simp)
      have kz19 := hz18.put1 uz16.heap.size 34 #[.int .i64 key, .slice G l.length l.length] rfl
      have hg_ := Ints.grow hG (box_below uz16 (.cells #[.int .i64 key, .slice G l.length l.length] 34))
      clear hz18
      go_upto_region 10 with fail
      generalize World.alloc _ _ = wa at kz19 hg_ ⊢
      have HG := Lib.hid hg_
      clear hg_
      obtain ⟨kc0, kf0, kc1, kf1, -⟩ := kz19.rd
      clear hG
      go_wp2_with fail
      refine (TT.out _ kz19.1).mono ?_; rintro e uz20 ⟨g, rfl, ht, bz21⟩
      have hz22 := kz19.below bz21
      have hg_ := Ints.grow HG.out bz21
      clear kz19 bz21 HG kc0 kf0 kc1 kf1
      have HG := Lib.hid hg_
      clear hg_
      obtain ⟨kc0, kf0, kc1, kf1, -⟩ := hz22.rd
      have HT := Lib.hid ht
      clear ht
      go_wp2_with fail
      refine (MI.out _ _ _ HG.out HT.out).mono ?_; rintro e uz23 ⟨rfl, bz24⟩
      have hz25 := hz22.below bz24
      have hg_ := Ints.grow HG.out bz24
      have ht_ := Slots.grow HT.out bz24
      clear hz22 bz24 HG HT kc0 kf0 kc1 kf1
      have HG := Lib.hid hg_
      clear hg_
      have HT := Lib.hid ht_
      clear ht_
      obtain ⟨kc0, kf0, kc1, kf1, -⟩ := hz25.rd
      go_upto_region 14 with fail
      have Kz26 := Lib.hid hz25
      clear hz25
      go_region_with (first
        | (go_at_call 8; refine (T.out _ Kz26.out.drew.1).mono ?_; rintro e wx ⟨Cx, rfl, hx, bx⟩; have kx := Kz26.out.drew.below bx; obtain ⟨mc0, mf0, mc1, mf1, -⟩ := kx.rd; have GX := Lib.hid (Ints.grow (show Ints uz23.drew .i64 uz23.drew.heap.size G l from HG.out) bx); have BX := Lib.hid bx; have HX := Lib.hid hx; clear kx hx bx)
        | (go_at_call 11; refine (Q.out _ _ _ GX.out HX.out).mono ?_; rintro e wy ⟨rfl, hy⟩; have BY := Lib.hid (BX.out.trans (hy.mono BX.out.size)); clear hy))
      all_goals
        have hz27 := Kz26.out.drew.below BY.out
        have ht_ := Slots.grow (show Slots uz23.drew uz23.drew.heap.size (some ⟨g, 0, none⟩) S from HT.out) BY.out
        clear Kz26 HT BX GX HX
        have HT := Lib.hid ht_
        clear ht_
        go_upto_region 16 with fail
        obtain ⟨kc0, kf0, kc1, kf1, -⟩ := hz27.rd
        go_wp2_with fail
        refine (TT.out _ hz27.1).mono ?_; rintro e uz28 ⟨g2, rfl, ht2, bz29⟩
        have hz30 := hz27.below bz29
        have ht_ := Slots.grow HT.out bz29
        clear hz27 bz29 HT kc0 kf0 kc1 kf1
        have HT := Lib.hid ht_
        clear ht_
        obtain ⟨kc0, kf0, kc1, kf1, -⟩ := hz30.rd
        have HT2 := Lib.hid ht2
        clear ht2
        go_wp2_with fail
        refine (EQ.out _ _ _ HT.out HT2.out).mono ?_; rintro e uz31 ⟨rfl, bz32⟩
        have hz33 := hz30.below bz32
        clear hz30 bz32 kc0 kf0 kc1 kf1
        have Hz34 := Lib.hid hz33.1
        clear hz33
        go_wp2_with fail
        go_ret
        exact ⟨rfl, Hz34.out⟩
end Go.Proofs.Ytjbnknccnhdapaa.Mx
namespace Go.Proofs.Ytjbnknccnhdapaa.Mx
open Go.ChangeShapes Go.WideShapes Go.ChangeAt Go.RowKit
set_option linter.unusedVariables false
section
variable {b u w' : World} {p q r : Nat} {key : Int} {A G : Option Addr} {l : List Int} {cap : Nat} {t0 t1 t2 t3 t4 t5 t6 : Int} {t7 : Bool}
end
end Go.Proofs.Ytjbnknccnhdapaa.Mx
namespace Go.Proofs.Ytjbnknccnhdapaa.Mx
open Go.ChangeShapes Go.WideShapes Go.ChangeAt Go.RowKit
set_option linter.unusedVariables false
end Go.Proofs.Ytjbnknccnhdapaa.Mx

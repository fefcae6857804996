import Derived.Test.YtodmponjjhokdaaE11
import Derived.Test.YtodmponjjhokdaaE03
import Derived.Test.YtodmponjjhokdaaE04
import Derived.OpenShut
import Derived.ShutString
import Derived.ChangeOld
import Derived.Lib.SmallJoins
import Derived.ChangeArms
import Derived.Test.YtodmponjjhokdaaE05
import Derived.Test.YtodmponjjhokdaaE06
import Derived.Deep.Slices
import Derived.Deep.Fields
namespace Go.Proofs.Ytodmponjjhokdaa.Mx
open Go.ChangeShapes Go.WideShapes Go.ChangeAt Go.RowKit
set_option linter.unusedVariables false
theorem TrRow.sls {w : World} {b n c : Nat} {A : Option Addr} {L : List Tru} (h : TrRow w b (.slice A n c) L) : Trs w w.heap.size A L ∧ n = L.length := by
  obtain ⟨A', c', e, hs, -⟩ := SRow.reads truV_len h
  simp only [Value.slice.injEq] at e
  obtain ⟨rfl, rfl, -⟩ := e
  exact ⟨hs, rfl⟩
theorem SRow.off {w u : World} {base : Nat} {v : Value} {L : List Tru} (h : TrRow w base v L) {r : Option Nat} (hg : w.grownBy u r) (hr : ∀ k, v.ownBlock = some k → r ≠ some k) : TrRow u base v L :=
  SRow.kept h hg (by
    cases e : v.ownBlock with
    | none => exact .inl rfl
    | some k => exact .inr (fun h2 => hr k e h2.symm))
theorem Kept.grownO3 {b u w : World} {L : List Box} {r : Option Nat} (h : Kept b L u) (hb : u.grownBy w r) (hr : ∀ k, r = some k → b.heap.size ≤ k ∧ ∀ x ∈ L, x.1 ≠ k) : Kept b L w := by
  cases r with
  | none => exact h.below ⟨hb.os, hb.tape, hb.output, hb.size, fun k hk => hb.block k hk (by simp)⟩
  | some g => exact h.grown hb (hr g rfl).1 (hr g rfl).2
theorem sealN_len (key : Int) (l : List Int) (cnt : Int) (L : List Tru) : (sealN key l cnt L).2.1.length ≤ L.length := by
  unfold sealN
  split
  · exact Nat.le_refl _
  · exact Nat.zero_le _
set_option maxRecDepth 20000 in
set_option maxHeartbeats 16000000 in
theorem sealOfLaw_calls (key cnt : Int) (A C : Option Addr) (l : List Int) (cap : Nat) (L : List Tru) (cap2 : Nat) (w : World) (hn : l.length ≤ maxLen) (hA : Ints w .i64 w.heap.size A l) (hm : L.length ≤ maxLen) (hC : Trs w w.heap.size C L) (hI : TrusI L) (hc0 : I64 cnt) :
    Calls Try.prog 4 #[.agg #[.int .i64 key, .slice A l.length cap], .int .i64 cnt, .slice C L.length cap2] w fun e w' => e = .returned (.bool true) ∧ Below w.heap.size w w' := by
  have K0 := Lib.hid (show Kept w [(w.heap.size, 24, #[.int .i64 key, .slice A l.length cap])] _ from ((Kept.refl w).put1 _ _ #[.int .i64 key, .slice A l.length cap] rfl))
  by_cases hs : 1048576 < l.length
  · have S := Lib.hid (fun w => szPlan_no key A l.length cap w hn hs)
    clear hA hs hC hI hc0
    go_enter Try.func4, Try.ntmps4
    go_wp2_with fail
    refine (S.out _).mono ?_; rintro e w1 ⟨rfl, b1⟩
    have B1 := Lib.hid (K0.out.below b1).1
    clear b1
    go_wp2_with fail
    go_ret
    exact ⟨rfl, B1.out⟩
  · have hs' : l.length ≤ 1048576 := by omega
    have S := Lib.hid (fun w => szPlan_yes key A l.length cap w hs')
    have hg : ¬ (1048576 : Int) - l.length < 0 := by omega
    by_cases ht : 1048576 < l.length + L.length
    · have ST := Lib.hid (fun u => szTrustS_calls C L.length cap2 (1048576 - l.length) u (by omega) (by omega) hm)
      rw [if_neg (by omega)] at ST
      clear hA hs hs' hC hI hc0
      go_enter Try.func4, Try.ntmps4
      go_wp2_with fail
      refine (S.out _).mono ?_; rintro e w1 ⟨rfl, b1⟩
      have k1 := K0.out.below b1
      clear b1 S K0
      obtain ⟨kc0, kf0, -⟩ := k1.rd
      go_wp2_with fail
      refine (ST.out _).mono ?_; rintro e w' ⟨rfl, rfl⟩
      go_wp2_with fail
      go_ret
      exact ⟨rfl, k1.1⟩
    · have hN : L.length ≤ 1048576 := by omega
      have ST := Lib.hid (fun u => szTrustS_calls C L.length cap2 (1048576 - l.length) u (by omega) (by omega) hm)
      rw [if_pos (by omega)] at ST
      have hg2 : ¬ (1048576 : Int) - l.length - L.length < 0 := by omega
      have T := Lib.hid (fun v hb => toPlan_calls key A l cap v hs' ((hA.below (show Below w.heap.size w v from hb) (Nat.le_refl _)).more hb.size))
      have TO := Lib.hid (fun v hb => toPlanO_calls key A l cap v hs' ((hA.below (show Below w.heap.size w v from hb) (Nat.le_refl _)).more hb.size))
      have TT := Lib.hid (fun v hb => toTrusts_own C L cap2 v hN ((hC.below (show Below w.heap.size w v from hb) (Nat.le_refl _)).more hb.size))
      have Q := Lib.hid (fun A C w hA hC => eqPlan_same key A C l l.length l.length w hs' hA hC)
      have EQ := Lib.hid (fun A C u hA hC => eqTrustS_same A C L L.length L.length u hm hA hC)
      have SS := Lib.hid (fun D E u hD hE => specSealOf_calls key D l l.length cnt E L L.length u hn hD hN hE hI hc0)
      have CI := Lib.hid (fun D E u hD hE => implSealOf_calls key D l l.length (Nat.le_refl _) cnt E L L.length u hs' hD hN hE hI hc0)
      have hRL : (sealN key l cnt L).2.1.length ≤ 1048576 := Nat.le_trans (sealN_len key l cnt L) hN
      generalize sealN key l cnt L = R at SS CI hRL
      have hRM : R.2.1.length ≤ maxLen := by unfold maxLen; omega
      have QS := Lib.hid (fun A C c c' u hA hC => eqSeal_same R.1 R.2.2 A C R.2.1 c c' u hRM hA hC)
      have MP := Lib.hid (fun g f u hr => markPlan_calls key g l.length l.length f u hs' hr)
      have MT := Lib.hid (fun g t cs u hc hz => markTrustS_calls g L.length L.length (1 + l.length) t cs u hN (by omega) (by omega) hc hz)
      have MS := Lib.hid (fun v b u hr => markSeal_calls R.1 R.2.2 v R.2.1 b u hRL hr)
      have HS := Lib.hid (fun A c u hr => heldSeal_calls R.1 R.2.2 A R.2.1.length c u hRL hr)
      have hq1 : ¬ (1 : Int) + l.length + 8 * L.length < 0 := by omega
      have hq2 : ¬ (1 : Int) + 8 * R.2.1.length < 0 := by omega
      have hq3 : ((1 : Int) + 8 * R.2.1.length != 1 + 8 * R.2.1.length) = false := by simp
      clear hA hs hC hI hc0 hn hm ht hRM
      have k0 := K0.out
      clear K0
      go_enter Try.func4, Try.ntmps4
      go_wp2_with fail
      refine (S.out _).mono ?_; rintro e uz1 ⟨rfl, bz2⟩
      have hz3 := k0.below bz2
      have szuz1 := bz2.size
      clear k0 bz2
      obtain ⟨kc0, kf0, -⟩ := hz3.rd
      go_wp2_with fail
      refine (ST.out _).mono ?_; rintro e w' ⟨rfl, rfl⟩
      clear S ST
      go_wp2_with fail
      refine (T.out _ hz3.1).mono ?_; rintro e uz4 ⟨G, rfl, hG, bz5⟩
      have hz6 := hz3.below bz5
      have szuz4 := bz5.size
      clear hz3 bz5 kc0 kf0
      obtain ⟨kc0, kf0, -⟩ := hz6.rd
      have HG := Lib.hid hG
      clear hG
      go_wp2_with fail
      refine (TT.out _ hz6.1).mono ?_; rintro e uz7 ⟨gx, rfl, -, -, ht, -, bz8⟩
      have hz9 := hz6.below bz8
      have szuz7 := bz8.size
      have hg_ := Ints.grow HG.out bz8
      clear hz6 bz8 HG kc0 kf0
      have HG := Lib.hid hg_
      clear hg_
      obtain ⟨kc0, kf0, -⟩ := hz9.rd
      have HT := Lib.hid ht
      clear ht
      clear kc0 kf0
      go_wp2_with fail
      refine (SS.out _ _ _ HG.out HT.out).mono ?_; rintro e uz10 ⟨A7, c7, rfl, r7, bz11⟩
      have hz12 := hz9.below bz11
      have szuz10 := bz11.size
      clear hz9 bz11
      clear HG HT SS
      have o7 : ∀ k, Value.ownBlock (.slice A7 R.2.1.length c7) = some k → k < uz10.heap.size := fun k hk => (r7.lt hk).2
      have O7 := Lib.hid o7
      clear o7
      have lkz13_0 : w.heap.size < uz10.heap.size := hz12.lt (x := (w.heap.size, 24, #[.int .i64 key, .slice A l.length cap])) (by simp)
      have kz13 := hz12.put1 uz10.heap.size 37 #[.int .i64 R.1, .slice A7 R.2.1.length c7, .int .i64 R.2.2] rfl
      have r7_ := r7.below (box_below uz10 (.cells #[.int .i64 R.1, .slice A7 R.2.1.length c7, .int .i64 R.2.2] 37))
      clear hz12
      go_upto_region 9 with fail
      generalize World.alloc _ _ = wa at kz13 r7_ ⊢
      have R7 := Lib.hid r7_
      clear r7_
      obtain ⟨kc0, kf0, kc1, kf1, -⟩ := kz13.rd
      clear r7
      have la : uz10.heap.size < wa.heap.size := kz13.lt (x := (uz10.heap.size, 37, #[.int .i64 R.1, .slice A7 R.2.1.length c7, .int .i64 R.2.2])) (by simp)
      go_wp2_with fail
      refine (TO.out _ kz13.1).mono ?_; rintro e uz14 ⟨g, rfl, hg0, hrow, bz15⟩
      have hz16 := kz13.below bz15
      have szuz14 := bz15.size
      have r7_ := R7.out.below bz15
      clear kz13 bz15 R7 kc0 kf0 kc1 kf1
      have R7 := Lib.hid r7_
      clear r7_
      have hg1 : g < uz14.heap.size := hrow.lt
      have lkz17_0 : uz10.heap.size < uz14.heap.size := hz16.lt (x := (uz10.heap.size, 37, #[.int .i64 R.1, .slice A7 R.2.1.length c7, .int .i64 R.2.2])) (by simp)
      have lkz17_1 : w.heap.size < uz14.heap.size := hz16.lt (x := (w.heap.size, 24, #[.int .i64 key, .slice A l.length cap])) (by simp)
      have kz17 := hz16.put1 uz14.heap.size 29 #[.int .i64 key, .slice (some ⟨g, 0, none⟩) l.length l.length] rfl
      have r7_ := R7.out.below (box_below uz14 (.cells #[.int .i64 key, .slice (some ⟨g, 0, none⟩) l.length l.length] 29))
      have hr_ := rowIs_block hrow ((box_below uz14 (.cells #[.int .i64 key, .slice (some ⟨g, 0, none⟩) l.length l.length] 29)).block g hg1)
      clear hz16
      go_upto_region 10 with fail
      generalize World.alloc _ _ = wb at kz17 r7_ hr_ ⊢
      have R7 := Lib.hid r7_
      clear r7_
      have HR := Lib.hid hr_
      clear hr_
      obtain ⟨kc0, kf0, kc1, kf1, kc2, kf2, -⟩ := kz17.rd
      clear hrow
      have lb : uz14.heap.size < wb.heap.size := kz17.lt (x := (uz14.heap.size, 29, #[.int .i64 key, .slice (some ⟨g, 0, none⟩) l.length l.length])) (by simp)
      go_wp2_with fail
      refine (TT.out _ kz17.1).mono ?_; rintro e uz18 ⟨g2, rfl, hg20, hg21, ht, ⟨cs2, hc2, hs2⟩, bz19⟩
      have hz20 := kz17.below bz19
      have szuz18 := bz19.size
      have r7_ := R7.out.below bz19
      have hr_ := rowIs_block HR.out (bz19.block g HR.out.lt)
      clear kz17 bz19 R7 HR kc0 kf0 kc1 kf1 kc2 kf2
      have R7 := Lib.hid r7_
      clear r7_
      have HR := Lib.hid hr_
      clear hr_
      obtain ⟨kc0, kf0, kc1, kf1, kc2, kf2, -⟩ := hz20.rd
      have HT := Lib.hid ht
      clear ht
      have HC2 := Lib.hid hc2
      clear hc2
      go_wp2_with fail
      refine (CI.out _ _ _ ((ints_row HR.out).more HR.out.lt) HT.out).mono ?_; rintro e uz21 ⟨A10, c10, rfl, r10, bz22⟩
      have hz23 := hz20.below bz22
      have szuz21 := bz22.size
      have r7_ := R7.out.below bz22
      have hr_ := rowIs_block HR.out (bz22.block g HR.out.lt)
      have ht_ := Sls.grow HT.out bz22
      have hc2_ := HC2.out.below bz22 HC2.out.lt
      clear hz20 bz22 R7 HR HT HC2 kc0 kf0 kc1 kf1 kc2 kf2
      have R7 := Lib.hid r7_
      clear r7_
      have HR := Lib.hid hr_
      clear hr_
      have HT := Lib.hid ht_
      clear ht_
      have HC2 := Lib.hid hc2_
      clear hc2_
      have o10 : ∀ k, Value.ownBlock (.slice A10 R.2.1.length c10) = some k → uz18.heap.size ≤ k ∧ k < uz21.heap.size := fun k hk => r10.lt hk
      have O10 := Lib.hid o10
      clear o10
      have lkz24_0 : uz14.heap.size < uz21.heap.size := hz23.lt (x := (uz14.heap.size, 29, #[.int .i64 key, .slice (some ⟨g, 0, none⟩) l.length l.length])) (by simp)
      have lkz24_1 : uz10.heap.size < uz21.heap.size := hz23.lt (x := (uz10.heap.size, 37, #[.int .i64 R.1, .slice A7 R.2.1.length c7, .int .i64 R.2.2])) (by simp)
      have lkz24_2 : w.heap.size < uz21.heap.size := hz23.lt (x := (w.heap.size, 24, #[.int .i64 key, .slice A l.length cap])) (by simp)
      have kz24 := hz23.put1 uz21.heap.size 37 #[.int .i64 R.1, .slice A10 R.2.1.length c10, .int .i64 R.2.2] rfl
      have r7_ := R7.out.below (box_below uz21 (.cells #[.int .i64 R.1, .slice A10 R.2.1.length c10, .int .i64 R.2.2] 37))
      have r10_ := r10.below (box_below uz21 (.cells #[.int .i64 R.1, .slice A10 R.2.1.length c10, .int .i64 R.2.2] 37))
      have hr_ := rowIs_block HR.out ((box_below uz21 (.cells #[.int .i64 R.1, .slice A10 R.2.1.length c10, .int .i64 R.2.2] 37)).block g HR.out.lt)
      have ht_ := Sls.grow HT.out (box_below uz21 (.cells #[.int .i64 R.1, .slice A10 R.2.1.length c10, .int .i64 R.2.2] 37))
      have hc2_ := HC2.out.below (box_below uz21 (.cells #[.int .i64 R.1, .slice A10 R.2.1.length c10, .int .i64 R.2.2] 37)) HC2.out.lt
      clear hz23
      go_upto_region 12 with fail
      generalize World.alloc _ _ = wc at kz24 r7_ r10_ hr_ ht_ hc2_ ⊢
      have R7 := Lib.hid r7_
      clear r7_
      have R10 := Lib.hid r10_
      clear r10_
      have HR := Lib.hid hr_
      clear hr_
      have HT := Lib.hid ht_
      clear ht_
      have HC2 := Lib.hid hc2_
      clear hc2_
      obtain ⟨kc0, kf0, kc1, kf1, kc2, kf2, kc3, kf3, -⟩ := kz24.rd
      clear r10
      go_wp2_with fail
      refine (QS.out _ _ _ _ _ (TrRow.sls R10.out).1 (TrRow.sls R7.out).1).mono ?_; rintro e uz25 ⟨rfl, bz26⟩
      have hz27 := kz24.below bz26
      have szuz25 := bz26.size
      have r7_ := R7.out.below bz26
      have r10_ := R10.out.below bz26
      have hr_ := rowIs_block HR.out (bz26.block g HR.out.lt)
      have ht_ := Sls.grow HT.out bz26
      have hc2_ := HC2.out.below bz26 HC2.out.lt
      clear kz24 bz26 R7 R10 HR HT HC2 kc0 kf0 kc1 kf1 kc2 kf2 kc3 kf3
      have R7 := Lib.hid r7_
      clear r7_
      have R10 := Lib.hid r10_
      clear r10_
      have HR := Lib.hid hr_
      clear hr_
      have HT := Lib.hid ht_
      clear ht_
      have HC2 := Lib.hid hc2_
      clear hc2_
      obtain ⟨kc0, kf0, kc1, kf1, kc2, kf2, kc3, kf3, -⟩ := hz27.rd
      go_upto_region 14 with fail
      have Kz28 := Lib.hid hz27
      clear hz27
      go_region_with (first
        | (go_at_call 9; refine (T.out _ Kz28.out.drew.1).mono ?_; rintro e wx ⟨Cx, rfl, hx, bx⟩; have kx := Kz28.out.drew.below bx; obtain ⟨mc0, mf0, mc1, mf1, mc2, mf2, mc3, mf3, -⟩ := kx.rd; have hrx := rowIs_block HR.out (bx.block g HR.out.lt); have GX := Lib.hid ((ints_row hrx).more hrx.lt); have BX := Lib.hid bx; have HX := Lib.hid hx; clear kx hx bx hrx)
        | (go_at_call 12; refine (Q.out _ _ _ GX.out HX.out).mono ?_; rintro e wy ⟨rfl, hy⟩; have BY := Lib.hid (BX.out.trans (hy.mono BX.out.size)); clear hy))
      all_goals
        have hz29 := Kz28.out.drew.below BY.out
        have r7_ := (show TrRow uz25.drew _ (.slice A7 R.2.1.length c7) R.2.1 from R7.out).below BY.out
        have r10_ := (show TrRow uz25.drew _ (.slice A10 R.2.1.length c10) R.2.1 from R10.out).below BY.out
        have hr_ := rowIs_block HR.out (BY.out.block g HR.out.lt)
        have ht_ := Sls.grow (show Trs uz25.drew uz25.drew.heap.size (some ⟨g2, 0, none⟩) L from HT.out) BY.out
        have hc2_ := (show CellsAt uz25.drew g2 52 cs2 from HC2.out).below BY.out HC2.out.lt
        clear Kz28 R7 R10 HR HT HC2 BX GX HX BY
        have R7 := Lib.hid r7_
        clear r7_
        have R10 := Lib.hid r10_
        clear r10_
        have HR := Lib.hid hr_
        clear hr_
        have HT := Lib.hid ht_
        clear ht_
        have HC2 := Lib.hid hc2_
        clear hc2_
        go_upto_region 16 with fail
        obtain ⟨kc0, kf0, kc1, kf1, kc2, kf2, kc3, kf3, -⟩ := hz29.rd
        go_wp2_with fail
        refine (TT.out _ hz29.1).mono ?_; rintro e uz30 ⟨g3, rfl, -, -, ht3, -, bz31⟩
        have hz32 := hz29.below bz31
        have szuz30 := bz31.size
        have r7_ := R7.out.below bz31
        have r10_ := R10.out.below bz31
        have hr_ := rowIs_block HR.out (bz31.block g HR.out.lt)
        have ht_ := Sls.grow HT.out bz31
        have hc2_ := HC2.out.below bz31 HC2.out.lt
        clear hz29 bz31 R7 R10 HR HT HC2 kc0 kf0 kc1 kf1 kc2 kf2 kc3 kf3
        have R7 := Lib.hid r7_
        clear r7_
        have R10 := Lib.hid r10_
        clear r10_
        have HR := Lib.hid hr_
        clear hr_
        have HT := Lib.hid ht_
        clear ht_
        have HC2 := Lib.hid hc2_
        clear hc2_
        obtain ⟨kc0, kf0, kc1, kf1, kc2, kf2, kc3, kf3, -⟩ := hz32.rd
        have HT3 := Lib.hid ht3
        clear ht3
        go_wp2_with fail
        refine (EQ.out _ _ _ HT.out HT3.out).mono ?_; rintro e uz33 ⟨rfl, bz34⟩
        have hz35 := hz32.below bz34
        have szuz33 := bz34.size
        have r7_ := R7.out.below bz34
        have r10_ := R10.out.below bz34
        have hr_ := rowIs_block HR.out (bz34.block g HR.out.lt)
        have hc2_ := HC2.out.below bz34 HC2.out.lt
        clear hz32 bz34 R7 R10 HR HC2 kc0 kf0 kc1 kf1 kc2 kf2 kc3 kf3
        have R7 := Lib.hid r7_
        clear r7_
        have R10 := Lib.hid r10_
        clear r10_
        have HR := Lib.hid hr_
        clear hr_
        have HC2 := Lib.hid hc2_
        clear hc2_
        obtain ⟨kc0, kf0, kc1, kf1, kc2, kf2, kc3, kf3, -⟩ := hz35.rd
        clear HT HT3 EQ
        go_wp2_with fail
        refine (MP.out _ _ _ HR.out).mono ?_; rintro e uz36 ⟨rfl, hgb⟩
        have hz37 := hz35.grownO3 hgb (fun k hk => ⟨by injection hk with hk; omega, by injection hk with hk; intro y hy; simp at hy; rcases hy with rfl | rfl | rfl | rfl <;> simp <;> omega⟩)
        have r7_ := R7.out.off hgb (fun k hk e => by have := O7.out k hk; injection e; omega)
        have r10_ := R10.out.off hgb (fun k hk e => by have := O10.out k hk; injection e; omega)
        have hc2_ := HC2.out.grown hgb (by intro e; injection e; omega)
        clear hz35 hgb R7 R10 HC2 kc0 kf0 kc1 kf1 kc2 kf2 kc3 kf3
        have R7 := Lib.hid r7_
        clear r7_
        have R10 := Lib.hid r10_
        clear r10_
        have HC2 := Lib.hid hc2_
        clear hc2_
        obtain ⟨kc0, kf0, kc1, kf1, kc2, kf2, kc3, kf3, -⟩ := hz37.rd
        clear HR MP
        go_wp2_with fail
        refine (MT.out _ _ _ _ HC2.out hs2).mono ?_; rintro e uz38 ⟨rfl, -, hgb⟩
        have hz39 := hz37.grownO3 hgb (fun k hk => ⟨by injection hk with hk; omega, by injection hk with hk; intro y hy; simp at hy; rcases hy with rfl | rfl | rfl | rfl <;> simp <;> omega⟩)
        have r7_ := R7.out.off hgb (fun k hk e => by have := O7.out k hk; injection e; omega)
        have r10_ := R10.out.off hgb (fun k hk e => by have := O10.out k hk; injection e; omega)
        clear hz37 hgb R7 R10 kc0 kf0 kc1 kf1 kc2 kf2 kc3 kf3
        have R7 := Lib.hid r7_
        clear r7_
        have R10 := Lib.hid r10_
        clear r10_
        obtain ⟨kc0, kf0, kc1, kf1, kc2, kf2, kc3, kf3, -⟩ := hz39.rd
        clear HC2 MT
        go_wp2_with fail
        refine (QS.out _ _ _ _ _ (TrRow.sls R10.out).1 (TrRow.sls R7.out).1).mono ?_; rintro e uz40 ⟨rfl, bz41⟩
        have hz42 := hz39.below bz41
        have szuz40 := bz41.size
        have r7_ := R7.out.below bz41
        have r10_ := R10.out.below bz41
        clear hz39 bz41 R7 R10 kc0 kf0 kc1 kf1 kc2 kf2 kc3 kf3
        have R7 := Lib.hid r7_
        clear r7_
        have R10 := Lib.hid r10_
        clear r10_
        obtain ⟨kc0, kf0, kc1, kf1, kc2, kf2, kc3, kf3, -⟩ := hz42.rd
        go_wp2_with fail
        refine (MS.out _ _ _ R10.out).mono ?_; rintro e uz43 ⟨rfl, hh, hgb⟩
        have hz44 := hz42.grownO3 hgb (fun k hk => ⟨by have := O10.out k hk; omega, by have := O10.out k hk; intro y hy; simp at hy; rcases hy with rfl | rfl | rfl | rfl <;> simp <;> omega⟩)
        have r7_ := R7.out.off hgb (fun k hk e => by have := O7.out k hk; have := O10.out k e; omega)
        clear hz42 hgb R7 kc0 kf0 kc1 kf1 kc2 kf2 kc3 kf3
        have R7 := Lib.hid r7_
        clear r7_
        obtain ⟨kc0, kf0, kc1, kf1, kc2, kf2, kc3, kf3, -⟩ := hz44.rd
        clear R10 MS
        have HH := Lib.hid hh
        clear hh
        go_wp2_with fail
        refine (HS.out _ _ _ HH.out).mono ?_; rintro e uz45 ⟨rfl, bz46⟩
        have hz47 := hz44.below bz46
        have szuz45 := bz46.size
        have r7_ := R7.out.below bz46
        have hh_ := HH.out.below bz46
        clear hz44 bz46 R7 HH kc0 kf0 kc1 kf1 kc2 kf2 kc3 kf3
        have R7 := Lib.hid r7_
        clear r7_
        have HH := Lib.hid hh_
        clear hh_
        obtain ⟨kc0, kf0, kc1, kf1, kc2, kf2, kc3, kf3, -⟩ := hz47.rd
        go_wp2_with fail
        refine (T.out _ hz47.1).mono ?_; rintro e uz48 ⟨G4, rfl, hG, bz49⟩
        have hz50 := hz47.below bz49
        have szuz48 := bz49.size
        have r7_ := R7.out.below bz49
        have hh_ := HH.out.below bz49
        clear hz47 bz49 R7 HH kc0 kf0 kc1 kf1 kc2 kf2 kc3 kf3
        have R7 := Lib.hid r7_
        clear r7_
        have HH := Lib.hid hh_
        clear hh_
        obtain ⟨kc0, kf0, kc1, kf1, kc2, kf2, kc3, kf3, -⟩ := hz50.rd
        have HG := Lib.hid hG
        clear hG
        go_wp2_with fail
        refine (TT.out _ hz50.1).mono ?_; rintro e uz51 ⟨g4, rfl, -, -, ht, -, bz52⟩
        have hz53 := hz50.below bz52
        have szuz51 := bz52.size
        have r7_ := R7.out.below bz52
        have hh_ := HH.out.below bz52
        have hg_ := Ints.grow HG.out bz52
        clear hz50 bz52 R7 HH HG kc0 kf0 kc1 kf1 kc2 kf2 kc3 kf3
        have R7 := Lib.hid r7_
        clear r7_
        have HH := Lib.hid hh_
        clear hh_
        have HG := Lib.hid hg_
        clear hg_
        obtain ⟨kc0, kf0, kc1, kf1, kc2, kf2, kc3, kf3, -⟩ := hz53.rd
        have HT := Lib.hid ht
        clear ht
        go_wp2_with fail
        refine (CI.out _ _ _ HG.out HT.out).mono ?_; rintro e uz54 ⟨A15, c15, rfl, r15, bz55⟩
        have hz56 := hz53.below bz55
        have szuz54 := bz55.size
        have r7_ := R7.out.below bz55
        have hh_ := HH.out.below bz55
        clear hz53 bz55 R7 HH kc0 kf0 kc1 kf1 kc2 kf2 kc3 kf3
        have R7 := Lib.hid r7_
        clear r7_
        have HH := Lib.hid hh_
        clear hh_
        clear HG HT CI
        have lkz57_0 : uz21.heap.size < uz54.heap.size := hz56.lt (x := (uz21.heap.size, 37, #[.int .i64 R.1, .slice A10 R.2.1.length c10, .int .i64 R.2.2])) (by simp)
        have lkz57_1 : uz14.heap.size < uz54.heap.size := hz56.lt (x := (uz14.heap.size, 29, #[.int .i64 key, .slice (some ⟨g, 0, none⟩) l.length l.length])) (by simp)
        have lkz57_2 : uz10.heap.size < uz54.heap.size := hz56.lt (x := (uz10.heap.size, 37, #[.int .i64 R.1, .slice A7 R.2.1.length c7, .int .i64 R.2.2])) (by simp)
        have lkz57_3 : w.heap.size < uz54.heap.size := hz56.lt (x := (w.heap.size, 24, #[.int .i64 key, .slice A l.length cap])) (by simp)
        have kz57 := hz56.put1 uz54.heap.size 37 #[.int .i64 R.1, .slice A15 R.2.1.length c15, .int .i64 R.2.2] rfl
        have r7_ := R7.out.below (box_below uz54 (.cells #[.int .i64 R.1, .slice A15 R.2.1.length c15, .int .i64 R.2.2] 37))
        have r15_ := r15.below (box_below uz54 (.cells #[.int .i64 R.1, .slice A15 R.2.1.length c15, .int .i64 R.2.2] 37))
        have hh_ := HH.out.below (box_below uz54 (.cells #[.int .i64 R.1, .slice A15 R.2.1.length c15, .int .i64 R.2.2] 37))
        clear hz56
        go_upto_region 32 with fail
        generalize World.alloc _ _ = wd at kz57 r7_ r15_ hh_ ⊢
        have R7 := Lib.hid r7_
        clear r7_
        have R15 := Lib.hid r15_
        clear r15_
        have HH := Lib.hid hh_
        clear hh_
        obtain ⟨kc0, kf0, kc1, kf1, kc2, kf2, kc3, kf3, kc4, kf4, -⟩ := kz57.rd
        clear r15
        go_wp2_with fail
        refine (QS.out _ _ _ _ _ (TrRow.sls R15.out).1 (TrRow.sls R7.out).1).mono ?_; rintro e uz58 ⟨rfl, bz59⟩
        have hz60 := kz57.below bz59
        have szuz58 := bz59.size
        have hh_ := HH.out.below bz59
        clear kz57 bz59 HH kc0 kf0 kc1 kf1 kc2 kf2 kc3 kf3 kc4 kf4
        have HH := Lib.hid hh_
        clear hh_
        obtain ⟨kc0, kf0, kc1, kf1, kc2, kf2, kc3, kf3, kc4, kf4, -⟩ := hz60.rd
        go_wp2_with fail
        refine (HS.out _ _ _ HH.out).mono ?_; rintro e uz61 ⟨rfl, bz62⟩
        have hz63 := hz60.below bz62
        have szuz61 := bz62.size
        clear hz60 bz62 kc0 kf0 kc1 kf1 kc2 kf2 kc3 kf3 kc4 kf4
        have Hz64 := Lib.hid hz63.1
        clear hz63
        go_wp2_with fail
        go_ret
        exact ⟨rfl, Hz64.out⟩
end Go.Proofs.Ytodmponjjhokdaa.Mx
namespace Go.Proofs.Ytodmponjjhokdaa.Mx
open Go.ChangeShapes Go.WideShapes Go.ChangeAt Go.RowKit
set_option linter.unusedVariables false
def IsRow (k : IntKind) (w : World) (a : Option Addr) (len cap : Nat) (zs : List Int) : Prop :=
  (a = none ∧ len = 0 ∧ cap = 0 ∧ zs = []) ∨
  ∃ x, a = some x ∧ len ≤ cap ∧ cap ≤ maxLen ∧ zs.length = cap ∧ (∀ i, i < zs.length → w.cell? (x.add i) = some (.int k (zs.getD i 0))) ∧ ∀ n ∈ zs, (Lit.int k n).wf = true
section
variable {H : Type} {enc : TypeId × Value → H} {P : Program} {w : World} {base : Nat} {spare : Nat → Bool} {held : Bool}
theorem int_of_trod {t : TypeId} {n : Nat} {v : Value} {y : DataW H × List MemPlace} (ht : P.underlying t = some (.int .i64)) (h : DataW.trod enc P w base spare held n t [v] = some y) : ∃ a, v = .int .i64 a ∧ I64 a := by
  obtain ⟨z, hc, hx, hw⟩ := DataW.trod_int ht h
  simp at hc
  exact ⟨z, hc, bounds_i64 hw⟩
end
end Go.Proofs.Ytodmponjjhokdaa.Mx
namespace Go.Proofs.Ytodmponjjhokdaa.Mx
open Go.ChangeShapes Go.WideShapes Go.ChangeAt Go.RowKit Go.Joins Go.Deep
set_option linter.unusedVariables false
section
variable {H : Type} {enc : TypeId × Value → H} {P : Program} {w : World} {base : Nat} {spare : Nat → Bool} {held : Bool}
theorem bool_of_trod {t : TypeId} {n : Nat} {v : Value} {y : DataW H × List MemPlace} (ht : P.underlying t = some .bool) (h : DataW.trod enc P w base spare held n t [v] = some y) : ∃ a, v = .bool a := by
  obtain ⟨b, hc, -⟩ := DataW.trod_bool ht h
  exact ⟨b, by simpa using hc⟩
end
end Go.Proofs.Ytodmponjjhokdaa.Mx
namespace Go.Proofs.Ytodmponjjhokdaa.Mx
open Go.ChangeShapes Go.WideShapes Go.ChangeAt Go.RowKit
set_option linter.unusedVariables false
def FitK (k : Option TypeDesc) (v : Value) : Prop := (k = some (.int .i64) ∧ ∃ n, v = .int .i64 n ∧ I64 n) ∨ (k = some .bool ∧ ∃ b, v = .bool b)
def FlatV (w : World) (n : Nat) (a : Option Addr) (len : Nat) (z : Nat → Value) : Prop :=
  ∀ k, k < len * n → ∃ b off, a = some ⟨b, off, none⟩ ∧ b < w.heap.size ∧ w.cell? ⟨b, off + k, none⟩ = some (z k)
theorem cell_atV {w : World} {x : Addr} {k : Nat} {v : Value} (h : w.cell? (x.add k) = some v) (h0 : w.cell? (x.add 0) ≠ none) : ∃ b off, x = ⟨b, off, none⟩ ∧ b < w.heap.size ∧ w.cell? ⟨b, off + k, none⟩ = some v := by
  obtain ⟨b, off, spot⟩ := x
  have hspot : spot = none := by
    cases hc : w.cell? ((⟨b, off, spot⟩ : Addr).add 0) with
    | none => exact absurd hc h0
    | some u => simpa [Addr.add] using World.cell?_spot hc
  subst hspot
  have hc : w.cell? ⟨b, off + k, none⟩ = some v := by
    by_cases hk : k = 0
    · subst hk; simpa [Addr.add] using h
    · simpa [Addr.add, hk] using h
  exact ⟨b, off, rfl, lt_of_cell hc, hc⟩
section
variable {H : Type} {enc : TypeId × Value → H} {P : Program} {w : World} {base : Nat} {held : Bool}
theorem flatV_of {t e : TypeId} {fs : Array Field} {n0 : Nat} {v : Value} {y : DataW H × List MemPlace} (ht : P.underlying t = some (.slice e)) (he : P.underlying e = some (.struct fs)) (hone : Deep.oneCellFields P fs = true) (hC : P.cellsOf e = fs.size)
    (hk : ∀ f ∈ fs.toList, P.underlying f.type = some (.int .i64) ∨ P.underlying f.type = some .bool) (h : DataW.trod enc P w base (fun _ => true) held n0 t [v] = some y) :
    ∃ a len cap, v = .slice a len cap ∧ len ≤ cap ∧ len ≤ maxLen ∧ ∃ z : Nat → Value, FlatV w fs.size a len z ∧ ∀ k, k < len * fs.size → ∀ f, fs[k % fs.size]? = some f → FitK (P.underlying f.type) (z k) := by
  rcases Deep.open_slice ht h with ⟨hcs, _⟩ | ⟨x, l, c, m, n, D, Pl, hcs, _, hl, hm, hmm, _, hi⟩
  · simp only [List.cons.injEq, and_true] at hcs
    exact ⟨none, 0, 0, hcs, Nat.le_refl _, Nat.zero_le _, fun _ => undef, fun k hk => absurd hk (by simp), fun k hk => absurd hk (by simp)⟩
  · simp only [List.cons.injEq, and_true] at hcs
    simp only [if_true] at hmm
    subst hmm
    have key : ∀ k, ∃ u : Value, k < m * fs.size → w.cell? (x.add k) = some u ∧ ∀ f, fs[k % fs.size]? = some f → FitK (P.underlying f.type) u := by
      intro k
      by_cases hk2 : k < m * fs.size
      · have hn : 0 < fs.size := by rcases Nat.eq_zero_or_pos fs.size with h0 | h0; · simp [h0] at hk2
                                    · exact h0
        have hj : k % fs.size < fs.size := Nat.mod_lt _ hn
        have hik : k / fs.size < m := Nat.div_lt_of_lt_mul (by rwa [Nat.mul_comm])
        obtain ⟨cs, hc, ht'⟩ := hi _ hik
        obtain ⟨ys, n', _, _, hlen, hyl, hfld⟩ := DataW.trod_struct he ht'
        obtain ⟨_, _, hat⟩ := World.cells?_some hc
        have hfj : fs[k % fs.size]? = some fs[k % fs.size] := Array.getElem?_eq_getElem hj
        obtain ⟨ho, h1⟩ := Deep.hone_of hone _ _ hfj
        have hT := hfld _ _ hfj
        rw [ho, h1] at hT
        have hlt : k % fs.size < cs.length := by omega
        rw [List.drop_eq_getElem_cons hlt, List.take_succ_cons, List.take_zero, List.getElem?_eq_getElem (by omega)] at hT
        refine ⟨cs[k % fs.size], fun _ => ⟨?_, fun f hf => ?_⟩⟩
        · have hcell := hat _ (show k % fs.size < P.cellsOf e by omega)
          rw [Deep.add_add, hC, Nat.mul_comm, Nat.div_add_mod] at hcell
          rw [hcell, List.getElem?_eq_getElem hlt]
        · rw [hfj] at hf
          injection hf with hf
          subst hf
          rcases hk _ (Array.getElem_mem_toList hj) with h2 | h2
          · obtain ⟨v, hv, hv64⟩ := int_of_trod h2 hT
            exact .inl ⟨h2, v, hv, hv64⟩
          · obtain ⟨b, hb⟩ := bool_of_trod h2 hT
            exact .inr ⟨h2, b, hb⟩
      · exact ⟨undef, fun h => absurd h hk2⟩
    obtain ⟨z, hz⟩ := Classical.axiomOfChoice key
    have hkm : ∀ k, k < l * fs.size → k < m * fs.size := fun k hk => Nat.lt_of_lt_of_le hk (Nat.mul_le_mul_right _ hl)
    refine ⟨some x, l, m, hcs, hl, Nat.le_trans hl hm, z, fun k hk => ?_, fun k hk => (hz k (hkm k hk)).2⟩
    obtain ⟨b, off, rfl, hb, hc⟩ := cell_atV (hz k (hkm k hk)).1 (by rw [(hz 0 (by have := hkm k hk; omega)).1]; simp)
    exact ⟨b, off, rfl, hb, hc⟩
theorem flatV_of_trod {t e : TypeId} {fs : Array Field} {a : Option Addr} {len cap : Nat} {d : DataW H} {p : List MemPlace} (ht : P.underlying t = some (.slice e)) (he : P.underlying e = some (.struct fs)) (hone : Deep.oneCellFields P fs = true) (hC : P.cellsOf e = fs.size)
    (hk : ∀ f ∈ fs.toList, P.underlying f.type = some (.int .i64) ∨ P.underlying f.type = some .bool) (h : DataW.Trod enc P w base (fun _ => true) held t (.slice a len cap) d p) :
    len ≤ cap ∧ len ≤ maxLen ∧ ∃ z : Nat → Value, FlatV w fs.size a len z ∧ ∀ k, k < len * fs.size → ∀ f, fs[k % fs.size]? = some f → FitK (P.underlying f.type) (z k) := by
  obtain ⟨fuel, hf⟩ := h
  have h2 : DataW.trod enc P w base (fun _ => true) held fuel t [.slice a len cap] = some (d, p) := by simpa [Value.cells] using hf
  obtain ⟨a', len', cap', e1, r⟩ := flatV_of ht he hone hC hk h2
  simp only [Value.slice.injEq] at e1
  obtain ⟨rfl, rfl, rfl⟩ := e1
  exact r
end
def boolOf : Value → Bool | .bool b => b | _ => false
def truOf (z : Nat → Value) (len : Nat) : List Tru := (List.range len).map fun i => ⟨intOf (z (i * 8)), intOf (z (i * 8 + 1)), intOf (z (i * 8 + 2)), intOf (z (i * 8 + 3)), intOf (z (i * 8 + 4)), intOf (z (i * 8 + 5)), intOf (z (i * 8 + 6)), boolOf (z (i * 8 + 7))⟩
theorem truOf_len (z : Nat → Value) (len : Nat) : (truOf z len).length = len := by simp [truOf]
theorem truOf_get (z : Nat → Value) {len i : Nat} (h : i < len) : (truOf z len).getD i default = ⟨intOf (z (i * 8)), intOf (z (i * 8 + 1)), intOf (z (i * 8 + 2)), intOf (z (i * 8 + 3)), intOf (z (i * 8 + 4)), intOf (z (i * 8 + 5)), intOf (z (i * 8 + 6)), boolOf (z (i * 8 + 7))⟩ := by
  rw [List.getD_eq_getElem?_getD]; simp [truOf, h]
theorem int_fit {k : Option TypeDesc} {v : Value} (h : FitK k v) (hk : k = some (.int .i64)) : v = .int .i64 (intOf v) ∧ I64 (intOf v) := by
  rcases h with ⟨_, n, rfl, hn⟩ | ⟨h2, _⟩
  · exact ⟨rfl, hn⟩
  · rw [hk] at h2; cases h2
theorem bool_fit {k : Option TypeDesc} {v : Value} (h : FitK k v) (hk : k = some .bool) : v = .bool (boolOf v) := by
  rcases h with ⟨h2, _⟩ | ⟨_, b, rfl⟩
  · rw [hk] at h2; cases h2
  · rfl
def IsTrus (w : World) (a : Option Addr) (len cap : Nat) (L : List Tru) : Prop := Trs w w.heap.size a L ∧ L.length = len ∧ TrusI L ∧ len ≤ maxLen ∧ len ≤ cap
theorem istrus_of_flat {P : Program} {w : World} {a : Option Addr} {len cap : Nat} {fs : Array Field} (hks : fs.toList.map (fun f => P.underlying f.type) = [some (.int .i64), some (.int .i64), some (.int .i64), some (.int .i64), some (.int .i64), some (.int .i64), some (.int .i64), some .bool])
    (h : len ≤ cap ∧ len ≤ maxLen ∧ ∃ z : Nat → Value, FlatV w fs.size a len z ∧ ∀ k, k < len * fs.size → ∀ f, fs[k % fs.size]? = some f → FitK (P.underlying f.type) (z k)) : ∃ L, IsTrus w a len cap L := by
  obtain ⟨hl, hm, z, hz, hf⟩ := h
  have h8 : fs.size = 8 := by have := congrArg List.length hks; simpa using this
  rw [h8] at hz hf
  have hf2 : ∀ i j q, i < len → j < 8 → ([some (.int .i64), some (.int .i64), some (.int .i64), some (.int .i64), some (.int .i64), some (.int .i64), some (.int .i64), some .bool] : List (Option TypeDesc))[j]? = some q → FitK q (z (i * 8 + j)) := by
    intro i j q hi hj hq
    rw [← hks, List.getElem?_map] at hq
    obtain ⟨f, h1, h2⟩ := Option.map_eq_some_iff.1 hq
    rw [← h2]
    refine hf (i * 8 + j) (by omega) f ?_
    rw [show (i * 8 + j) % 8 = j by omega]
    simpa using h1
  refine ⟨truOf z len, fun i hi => ?_, truOf_len _ _, fun i hi => ?_, hm, hl⟩
  · rw [truOf_len] at hi
    rw [truOf_get z hi]
    obtain ⟨b, off, rfl, hb, c0⟩ := hz (i * 8) (by omega)
    refine ⟨b, off, rfl, hb, fun j hj => ?_⟩
    have hc : w.cell? ⟨b, off + (i * 8 + j), none⟩ = some (z (i * 8 + j)) := by
      obtain ⟨b', off', e1, _, c⟩ := hz (i * 8 + j) (by omega)
      simp only [Option.some.injEq, Addr.mk.injEq] at e1
      obtain ⟨rfl, rfl, -⟩ := e1
      exact c
    rw [show off + i * 8 + j = off + (i * 8 + j) by omega, hc]
    match j, hj with
    | 0, _ => exact congrArg some (int_fit (hf2 i 0 _ hi (by omega) rfl) rfl).1
    | 1, _ => exact congrArg some (int_fit (hf2 i 1 _ hi (by omega) rfl) rfl).1
    | 2, _ => exact congrArg some (int_fit (hf2 i 2 _ hi (by omega) rfl) rfl).1
    | 3, _ => exact congrArg some (int_fit (hf2 i 3 _ hi (by omega) rfl) rfl).1
    | 4, _ => exact congrArg some (int_fit (hf2 i 4 _ hi (by omega) rfl) rfl).1
    | 5, _ => exact congrArg some (int_fit (hf2 i 5 _ hi (by omega) rfl) rfl).1
    | 6, _ => exact congrArg some (int_fit (hf2 i 6 _ hi (by omega) rfl) rfl).1
    | 7, _ => exact congrArg some (bool_fit (hf2 i 7 _ hi (by omega) rfl) rfl)
  · rw [truOf_len] at hi
    rw [truOf_get z hi]
    have g := fun j q hj hq => hf2 i j q hi hj hq
    exact ⟨(int_fit (g 0 _ (by omega) rfl) rfl).2, (int_fit (g 1 _ (by omega) rfl) rfl).2, (int_fit (g 2 _ (by omega) rfl) rfl).2, (int_fit (g 3 _ (by omega) rfl) rfl).2, (int_fit (g 4 _ (by omega) rfl) rfl).2, (int_fit (g 5 _ (by omega) rfl) rfl).2, (int_fit (g 6 _ (by omega) rfl) rfl).2⟩
theorem istrus_of_field {P : Program} {w : World} {v : Value} {fs : Array Field} (hks : fs.toList.map (fun f => P.underlying f.type) = [some (.int .i64), some (.int .i64), some (.int .i64), some (.int .i64), some (.int .i64), some (.int .i64), some (.int .i64), some .bool])
    (h : ∃ a len cap, v = .slice a len cap ∧ len ≤ cap ∧ len ≤ maxLen ∧ ∃ z : Nat → Value, FlatV w fs.size a len z ∧ ∀ k, k < len * fs.size → ∀ f, fs[k % fs.size]? = some f → FitK (P.underlying f.type) (z k)) : ∃ a len cap L, v = .slice a len cap ∧ IsTrus w a len cap L := by
  obtain ⟨a, len, cap, e, r⟩ := h
  obtain ⟨L, hL⟩ := istrus_of_flat hks r
  exact ⟨a, len, cap, L, e, hL⟩
theorem kinds_of {P : Program} {fs : Array Field} {l : List (Option TypeDesc)} (hks : fs.toList.map (fun f => P.underlying f.type) = l) (hl : ∀ k ∈ l, k = some (.int .i64) ∨ k = some .bool) : ∀ f ∈ fs.toList, P.underlying f.type = some (.int .i64) ∨ P.underlying f.type = some .bool :=
  fun f hf => hl _ (hks ▸ List.mem_map_of_mem (f := fun f : Field => P.underlying f.type) hf)
section
variable {H : Type} {enc : TypeId × Value → H} {P : Program} {w : World} {base : Nat} {held : Bool}
theorem istrus_of_trod {t e : TypeId} {fs : Array Field} {a : Option Addr} {len cap : Nat} {d : DataW H} {p : List MemPlace} (ht : P.underlying t = some (.slice e)) (he : P.underlying e = some (.struct fs)) (hone : Deep.oneCellFields P fs = true) (hC : P.cellsOf e = fs.size)
    (hks : fs.toList.map (fun f => P.underlying f.type) = [some (.int .i64), some (.int .i64), some (.int .i64), some (.int .i64), some (.int .i64), some (.int .i64), some (.int .i64), some .bool]) (h : DataW.Trod enc P w base (fun _ => true) held t (.slice a len cap) d p) : ∃ L, IsTrus w a len cap L :=
  istrus_of_flat hks (flatV_of_trod ht he hone hC (kinds_of hks (by simp)) h)
theorem istrus_of_part {t e : TypeId} {fs : Array Field} {n0 : Nat} {v : Value} {y : DataW H × List MemPlace} (ht : P.underlying t = some (.slice e)) (he : P.underlying e = some (.struct fs)) (hone : Deep.oneCellFields P fs = true) (hC : P.cellsOf e = fs.size)
    (hks : fs.toList.map (fun f => P.underlying f.type) = [some (.int .i64), some (.int .i64), some (.int .i64), some (.int .i64), some (.int .i64), some (.int .i64), some (.int .i64), some .bool]) (h : DataW.trod enc P w base (fun _ => true) held n0 t [v] = some y) : ∃ a len cap L, v = .slice a len cap ∧ IsTrus w a len cap L :=
  istrus_of_field hks (flatV_of ht he hone hC (kinds_of hks (by simp)) h)
end
end Go.Proofs.Ytodmponjjhokdaa.Mx
namespace Go.Proofs.Ytodmponjjhokdaa.Mx
open Go.ChangeShapes Go.WideShapes Go.ChangeAt Go.RowKit
set_option linter.unusedVariables false
section
variable {H : Type} {enc : TypeId × Value → H} {P : Program} {w : World} {base : Nat} {held : Bool}
theorem row_of_field {t e : TypeId} {k : IntKind} {n : Nat} {v : Value} {y : DataW H × List MemPlace} (ht : P.underlying t = some (.slice e)) (he : P.underlying e = some (.int k)) (hc : P.cellsOf e = 1)
    (h : DataW.trod enc P w base (fun _ => true) held n t [v] = some y) : ∃ a len cap zs, v = .slice a len cap ∧ IsRow k w a len cap zs := by
  rcases open_ints ht he hc h with ⟨hcs, _⟩ | ⟨x, l, c, zs, hcs, _, hl, hm, hz, _, hcell, hwz⟩
  · simp only [List.cons.injEq, and_true] at hcs
    exact ⟨none, 0, 0, [], hcs, .inl ⟨rfl, rfl, rfl, rfl⟩⟩
  · simp only [List.cons.injEq, and_true] at hcs
    exact ⟨some x, l, c, zs, hcs, .inr ⟨_, rfl, hl, hm, by simpa using hz, hcell, hwz⟩⟩
end
theorem IsRow.list {k : IntKind} {w : World} {a : Option Addr} {len cap : Nat} {zs : List Int} (h : IsRow k w a len cap zs) : ∃ l : List Int, len = l.length ∧ Ints w k w.heap.size a l ∧ l.length ≤ maxLen ∧ l.length ≤ cap := by
  rcases h with ⟨rfl, rfl, rfl, rfl⟩ | ⟨x, rfl, hl, hm, hz, hcell, hwz⟩
  · exact ⟨[], rfl, Ints.nil, by simp [maxLen], Nat.le_refl _⟩
  · have hlen : (zs.take len).length = len := by rw [List.length_take]; omega
    exact ⟨zs.take len, hlen.symm, ints_of_row (by omega) hcell, by omega, by omega⟩
end Go.Proofs.Ytodmponjjhokdaa.Mx

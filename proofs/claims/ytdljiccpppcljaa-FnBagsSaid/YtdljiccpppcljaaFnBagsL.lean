/- THE WALK OF laws.FnBags: it returns true at every code; nothing that was there is written. -/
import Derived.Test.YtdljiccpppcljaaDrawJ
import Derived.Test.YtdljiccpppcljaaBagsL
import Derived.Test.YtdljiccpppcljaaDice
import Derived.Test.YtdljiccpppcljaaMixedL
namespace Go.Proofs.Ytdljiccpppcljaa.Mx
open Go.ChangeShapes Go.WideShapes Go.ChangeAt Go.RowKit Go.Maps
set_option linter.unusedVariables false

theorem addOf_right (s x y : Int) : addOf (addOf s x) y = addOf (addOf s y) x := by
  unfold addOf
  by_cases hs : 0 ≤ s ∧ s ≤ 4611686018427387903 <;> by_cases hx : 0 ≤ x ∧ x ≤ 4611686018427387903 <;> by_cases hy : 0 ≤ y ∧ y ≤ 4611686018427387903 <;> simp [hs, hx, hy] <;> (repeat' split) <;> omega
theorem sumAll_perm {key s : Int} {a b : List Tri} (h : a.Perm b) : sumAll key s a = sumAll key s b := by
  unfold sumAll
  induction h generalizing s with
  | nil => rfl
  | cons x _ ih => exact ih
  | swap x y l => simp only [List.foldl_cons]; rw [addOf_right]
  | trans _ _ ih1 ih2 => exact ih1.trans ih2
theorem sameBag_perm {a b : List Tri} (h : sameBag a b = true) : a.Perm b := by
  unfold sameBag at h
  exact (of_decide_eq_true h).2.2
theorem sameBag_sum {a b : List Tri} (h : sameBag a b = true) (key : Int) : sumOf key a = sumOf key b := by
  unfold sumOf
  rw [sumAll_perm (sameBag_perm h)]
theorem sameBag_comm (a b : List Tri) : sameBag b a = sameBag a b := by
  unfold sameBag
  exact decide_eq_decide.2 ⟨fun ⟨h0, h1, h2⟩ => ⟨h1, h0, h2.symm⟩, fun ⟨h0, h1, h2⟩ => ⟨h1, h0, h2.symm⟩⟩
theorem sameBag_self {a : List Tri} (h : a.length ≤ 7) : sameBag a a = true := sameBag_yes (by omega) (by omega) (List.Perm.refl a)

set_option maxHeartbeats 4000000 in
theorem bagsLaw_calls (A : Option Addr) (l : List Int) (cap : Nat) (w : World) (hn : l.length ≤ maxLen) (hA : Ints w .u8 w.heap.size A l) (h8 : ∀ i, i < l.length → 0 ≤ l.getD i 0 ∧ l.getD i 0 ≤ 255) :
    Calls Try.prog 3 #[.slice A l.length cap] w fun e w' => e = .returned (.bool true) ∧ Below w.heap.size w w' := by
  by_cases hs : 4096 < l.length
  · go_enter Try.func3, Try.ntmps3
    go_wp2_with fail
    refine (big_yes A l.length cap w hs).mono ?_; rintro e w' ⟨rfl, rfl⟩
    go_wp2_with fail
    go_ret
    exact ⟨rfl, Below.refl _ _⟩
  · have hs' : l.length ≤ 4096 := by omega
    clear hs
    have HN := Lib.hid hn
    have HA := Lib.hid hA
    have H8 := Lib.hid h8
    clear hn hA h8
    go_enter Try.func3, Try.ntmps3
    go_wp2_with fail
    refine (big_no A l.length cap w hs').mono ?_; rintro e w' ⟨rfl, rfl⟩
    go_wp2_with fail
    refine (drawSum_calls A l cap w HN.out HA.out).mono ?_; rintro e w1 ⟨k, Al, L, cl, rfl, hL, iL, tL, b1⟩
    have B1 := Lib.hid b1
    have TL1 := Lib.hid tL
    have SU := Lib.hid (fun w (h : Tris w w.heap.size Al L) => sum_calls k Al L cl w (by unfold maxLen; omega) h iL)
    have DU := Lib.hid (fun w (h : Tris w w.heap.size Al L) => specSum_calls k Al L cl w (by unfold maxLen; omega) h)
    generalize sumOf k L = s0 at SU DU
    clear b1 tL iL hL
    go_wp2_with fail
    refine (drawSame_calls A l cap w1 HN.out ((HA.out.below B1.out (Nat.le_refl _)).more B1.out.size)).mono ?_; rintro e w2 ⟨Aa, a, ca, Ab, b, cb, rfl, ha, hb, ia, ib, ta, tb, b2⟩
    have B2 := Lib.hid (B1.out.trans (b2.mono B1.out.size))
    have TL2 := Lib.hid (TL1.out.grow b2)
    have TA2 := Lib.hid ta
    have TB2 := Lib.hid tb
    have CAB := Lib.hid (fun w (hA : Tris w w.heap.size Aa a) (hB : Tris w w.heap.size Ab b) => same_calls Aa Ab a b ca cb w (by unfold maxLen; omega) (by unfold maxLen; omega) hA hB ia ib)
    have DAB := Lib.hid (fun w (hA : Tris w w.heap.size Aa a) (hB : Tris w w.heap.size Ab b) => specSame_calls Aa Ab a b ca cb w (by unfold maxLen; omega) (by unfold maxLen; omega) hA hB)
    have CBA := Lib.hid (fun w (hA : Tris w w.heap.size Ab b) (hB : Tris w w.heap.size Aa a) => same_calls Ab Aa b a cb ca w (by unfold maxLen; omega) (by unfold maxLen; omega) hA hB ib ia)
    have CAA := Lib.hid (fun w (hA : Tris w w.heap.size Aa a) => same_calls Aa Aa a a ca ca w (by unfold maxLen; omega) (by unfold maxLen; omega) hA hA ia ia)
    have SA := Lib.hid (fun key w (hA : Tris w w.heap.size Aa a) => sum_calls key Aa a ca w (by unfold maxLen; omega) hA ia)
    have SB := Lib.hid (fun key w (hB : Tris w w.heap.size Ab b) => sum_calls key Ab b cb w (by unfold maxLen; omega) hB ib)
    have FS := Lib.hid (fun (h : sameBag a b = true) (key : Int) => sameBag_sum h key)
    rw [sameBag_comm a b] at CBA
    rw [sameBag_self ha] at CAA
    generalize sameBag a b = same at CAB DAB CBA FS
    clear ta tb ia ib ha hb b2 B1 TL1
    go_wp2_with fail
    refine (drawLatest_calls A l cap w2 HN.out ((HA.out.below B2.out (Nat.le_refl _)).more B2.out.size)).mono ?_; rintro e w3 ⟨Am, M, cm, at_, rfl, hM, iM, tM, b3⟩
    have B3 := Lib.hid (B2.out.trans (b3.mono B2.out.size))
    have TL3 := Lib.hid (TL2.out.grow b3)
    have TA3 := Lib.hid (TA2.out.grow b3)
    have TB3 := Lib.hid (TB2.out.grow b3)
    have TM3 := Lib.hid tM
    have CL := Lib.hid (fun w (h : Tris w w.heap.size Am M) => latest_calls Am M cm at_ w (by unfold maxLen; omega) h)
    have DL := Lib.hid (fun w (h : Tris w w.heap.size Am M) => specLatest_calls Am M cm at_ w (by unfold maxLen; omega) h)
    unfold LatestS at CL DL
    generalize latest at_ M = r at CL DL
    obtain ⟨⟨x, y, z⟩, f⟩ := r
    clear b3 tM iM hM TL2 TA2 TB2 B2
    go_wp2_with fail
    refine (CL.out w3 TM3.out).mono ?_; rintro e w4 ⟨rfl, b4⟩
    have a4 := b4.alloc b4.size (.cells (triBox (x, y, z)) 32)
    have K4 := Lib.hid ((Kept.of_below (B3.out.trans (b4.mono B3.out.size))).new 32 (triBox (x, y, z)))
    have TL4 := Lib.hid (TL3.out.grow a4)
    have TA4 := Lib.hid (TA3.out.grow a4)
    have TB4 := Lib.hid (TB3.out.grow a4)
    have TM4 := Lib.hid (TM3.out.grow a4)
    clear b4 a4 TL3 TA3 TB3 TM3 B3 CL
    go_wp2_with fail
    refine (DL.out _ TM4.out).mono ?_; rintro e w5 ⟨rfl, b5⟩
    have a5 := b5.alloc b5.size (.cells (triBox (x, y, z)) 32)
    have K5 := Lib.hid ((K4.out.below b5).new 32 (triBox (x, y, z)))
    have TL5 := Lib.hid (TL4.out.grow a5)
    have TA5 := Lib.hid (TA4.out.grow a5)
    have TB5 := Lib.hid (TB4.out.grow a5)
    clear b5 a5 TL4 TA4 TB4 TM4 K4 DL
    go_wp2_with fail
    refine (CAB.out _ TA5.out TB5.out).mono ?_; rintro e w6 ⟨rfl, b6⟩
    have K6 := Lib.hid (K5.out.below b6)
    have TL6 := Lib.hid (TL5.out.grow b6)
    have TA6 := Lib.hid (TA5.out.grow b6)
    have TB6 := Lib.hid (TB5.out.grow b6)
    clear b6 TL5 TA5 TB5 K5 CAB
    go_wp2_with fail
    refine (SU.out _ TL6.out).mono ?_; rintro e w7 ⟨rfl, b7⟩
    have K7 := Lib.hid (K6.out.below b7)
    have TL7 := Lib.hid (TL6.out.grow b7)
    have TA7 := Lib.hid (TA6.out.grow b7)
    have TB7 := Lib.hid (TB6.out.grow b7)
    clear b7 TL6 TA6 TB6 K6 SU
    go_wp2_with fail
    refine (DU.out _ TL7.out).mono ?_; rintro e w8 ⟨rfl, b8⟩
    have K8 := Lib.hid (K7.out.below b8)
    have TA8 := Lib.hid (TA7.out.grow b8)
    have TB8 := Lib.hid (TB7.out.grow b8)
    clear b8 TL7 TA7 TB7 K7 DU
    have h0 : (s0 != s0) = false := by simp
    go_wp2_with fail
    refine (DAB.out _ TA8.out TB8.out).mono ?_; rintro e w9 ⟨rfl, b9⟩
    have K9 := Lib.hid (K8.out.below b9)
    have TA9 := Lib.hid (TA8.out.grow b9)
    have TB9 := Lib.hid (TB8.out.grow b9)
    clear b9 TA8 TB8 K8 DAB h0
    obtain ⟨e0, e1, e2⟩ := K9.out.three
    have g0 := K9.out.cell (p := w4.heap.size) (t := 32) (cs := triBox (x, y, z)) (by simp) 0
    have g1 := K9.out.cell (p := w4.heap.size) (t := 32) (cs := triBox (x, y, z)) (by simp) 1
    have g2 := K9.out.cell (p := w4.heap.size) (t := 32) (cs := triBox (x, y, z)) (by simp) 2
    simp only [triBox, List.getElem?_toArray, List.getElem?_cons_zero, List.getElem?_cons_succ] at g0 g1 g2
    have hm := triGuard
    have hq := fun w => tri_eqIn x y z x y z w
    rw [decide_eq_true rfl] at hq
    have hsame : (same != same) = false := by cases same <;> rfl
    have hf : (f != f) = false := by cases f <;> rfl
    go_wp2_with fail
    refine (CBA.out _ TB9.out TA9.out).mono ?_; rintro e wa ⟨rfl, ba⟩
    have KA := Lib.hid (K9.out.below ba)
    have TAa := Lib.hid (TA9.out.grow ba)
    have TBa := Lib.hid (TB9.out.grow ba)
    clear ba TA9 TB9 K9 CBA e0 e1 e2 g0 g1 g2 hm hq hf
    go_wp2_with fail
    refine (CAA.out _ TAa.out).mono ?_; rintro e wb ⟨rfl, bb⟩
    have BB := Lib.hid (KA.out.below bb).1
    have TAb := Lib.hid (TAa.out.grow bb)
    have TBb := Lib.hid (TBa.out.grow bb)
    clear bb TAa TBa KA CAA hsame
    go_wp2_with fail
    refine (roll_calls A l cap 5 wb HN.out ((HA.out.below BB.out (Nat.le_refl _)).more BB.out.size)).mono ?_; rintro e wc ⟨rfl, bc, dc⟩
    have BC := Lib.hid (BB.out.trans (bc.mono BB.out.size))
    have DC := Lib.hid dc
    have TAc := Lib.hid (TAb.out.below bc (Nat.le_refl _))
    have TBc := Lib.hid (TBb.out.below bc (Nat.le_refl _))
    have zc := BB.out.size
    clear bc dc TAb TBb BB
    go_wp2_with fail
    refine (throw_calls wb.heap.size A l cap 1000 wc HN.out DC.out H8.out (by omega)).mono ?_; rintro e wd ⟨q, rfl, ⟨q0, q1⟩, gd, dd⟩
    have BD := Lib.hid (bgb BC.out gd BC.out.size zc)
    have hbd : Below wb.heap.size wc wd := gr_below gd (Nat.le_of_lt DC.out.lt) (fun k hk => by injection hk with hk; omega)
    have TAd := Lib.hid ((TAc.out.below hbd (Nat.le_refl _)).more (Nat.le_of_lt dd.lt))
    have TBd := Lib.hid ((TBc.out.below hbd (Nat.le_refl _)).more (Nat.le_of_lt dd.lt))
    clear gd dd DC hbd TAc TBc BC
    have FK := Lib.hid (fun (h : same = true) => FS.out h (1 + q))
    have SAk := Lib.hid (SA.out (1 + q))
    have SBk := Lib.hid (SB.out (1 + q))
    generalize sumOf (1 + q) a = sa at FK SAk
    generalize sumOf (1 + q) b = sb at FK SBk
    clear SA SB FS
    go_wp2_with fail
    refine (SAk.out _ TAd.out).mono ?_; rintro e we ⟨rfl, be⟩
    have BE := Lib.hid (BD.out.trans (be.mono BD.out.size))
    have TBe := Lib.hid (TBd.out.grow be)
    clear be TAd TBd BD SAk
    go_wp2_with fail
    refine (SBk.out _ TBe.out).mono ?_; rintro e wf ⟨rfl, bf⟩
    have BF := Lib.hid (BE.out.trans (bf.mono BE.out.size))
    clear bf TBe BE SBk
    rcases same with _ | _
    · go_wp2_with fail
      go_ret
      exact ⟨rfl, BF.out⟩
    · have hss := FK.out rfl
      subst hss
      have he : (sa == sa) = true := by simp
      go_wp2_with fail
      go_ret
      exact ⟨rfl, BF.out⟩
end Go.Proofs.Ytdljiccpppcljaa.Mx

import Derived.Test.YtodmponjjhokdaaGreatG11
import Derived.Test.YtodmponjjhokdaaGreatG12
import Derived.Test.YtodmponjjhokdaaGreatG36
import Derived.Test.YtodmponjjhokdaaGreatG32
import Derived.Test.YtodmponjjhokdaaGreatG37
import Derived.Test.YtodmponjjhokdaaGreatG03
import Derived.Test.YtodmponjjhokdaaGreatG04
import Derived.OpenShut
import Derived.ShutString
import Derived.ChangeOld
namespace Go.Proofs.YtodmponjjhokdaaGreat.Mx
open Go.ChangeShapes Go.WideShapes Go.ChangeAt Go.RowKit
set_option linter.unusedVariables false
theorem HoldC.below {k q : Nat} {P : Value → World → Prop} {D : Nat → Bool} {γ : Nat → Value} {u u' : World} (hP : ∀ v u u', Below u.heap.size u u' → P v u → P v u') (h : HoldC k q P D γ u) (hb : Below u.heap.size u u') : HoldC k q P D γ u' := fun a b => hP _ _ _ hb (h a b)
def SealZ (cn mn : Int) (L : List Tru) (v : Value) (u : World) : Prop := ∃ (A : Option Addr) (c : Nat), v = .agg #[.int .i64 cn, .slice A L.length c, .int .i64 mn] ∧ Trs u u.heap.size A L
theorem SealZ.below (cn mn : Int) (L : List Tru) : ∀ v u u', Below u.heap.size u u' → SealZ cn mn L v u → SealZ cn mn L v u' := fun v u u' hb ⟨A, c, e, h⟩ => ⟨A, c, e, h.grow hb⟩
theorem TrRow.reads_ {w : World} {b n c : Nat} {A : Option Addr} {L : List Tru} (h : TrRow w b (.slice A n c) L) : Trs w w.heap.size A L := by
 obtain ⟨A', c', e, hs, -⟩ := SRow.reads truV_len h
 simp only [Value.slice.injEq] at e
 obtain ⟨rfl, rfl, -⟩ := e
 exact hs
theorem TrRow.block {w : World} {b : Nat} {v : Value} {L : List Tru} (h : TrRow w b v L) (hp : 0 < L.length) : ∃ g c, v = .slice (some ⟨g, 0, none⟩) L.length c ∧ b ≤ g ∧ g < w.heap.size := by
 rcases h.2 with ⟨_, h0⟩ | ⟨g, cap, cur, rfl, hb, hg, _⟩
 ·omega
 ·exact ⟨g, cap, rfl, hb, (Array.getElem?_eq_some_iff.1 hg).1⟩
theorem TrRow.frz {w : World} {b n c g : Nat} {L : List Tru} (h : TrRow w b (.slice (some ⟨g, 0, none⟩) n c) L) (i : Nat) : w.frozen? ⟨g, i, none⟩ = false := by
 rcases h.2 with ⟨e, _⟩ | ⟨k, cap', cur, e, _, hk, _⟩
 ·cases e
 ·simp only [Value.slice.injEq, Option.some.injEq, Addr.mk.injEq] at e
  obtain ⟨⟨rfl, -, -⟩, -⟩ := e
  exact (show CellsAt w g _ cur from hk).frozen i
theorem sealN_case (key : Int) (l : List Int) (cnt : Int) (L : List Tru) (h4 : L.length ≤ 4) (hI : TrusI L) : (sealN key l cnt L).2.1.length ≤ 4 ∧ TrusI (sealN key l cnt L).2.1 ∧ (0 ≤ (sealN key l cnt L).1 ∧ (sealN key l cnt L).1 ≤ 10000) ∧
    ((sealN key l cnt L).2.1 = [] ∨ (trustsOk key l (sealN key l cnt L).2.1 ∧ (sealN key l cnt L).2.2 = macOf key l (sealN key l cnt L).1 (sealN key l cnt L).2.1 ∧ 0 < (sealN key l cnt L).2.1.length)) := by
 unfold sealN
 split
 ·rename_i h
  exact ⟨h4, hI, h.2, .inr ⟨h.1, rfl, by show 0 < L.length; have h1 := h.1.2.1; have h2 := h.1.1.2.1.1; omega⟩⟩
 ·exact ⟨by simp, fun i hi => by simp at hi, ⟨by omega, by omega⟩, .inl rfl⟩
set_option maxRecDepth 20000 in
set_option maxHeartbeats 16000000 in
theorem sealsLaw_calls (A : Option Addr) (l : List Int) (cap : Nat) (w : World) (hn : l.length ≤ maxLen) (hA : Ints w .u8 w.heap.size A l) (h8 : ∀ i, i < l.length → 0 ≤ l.getD i 0 ∧ l.getD i 0 ≤ 255) :
    Calls Tryz.prog 3 #[.slice A l.length cap] w fun e w' => e = .returned (.bool true) ∧ Below w.heap.size w w' := by
 by_cases hs : 4096 < l.length
 ·go_enter Tryz.func3, Tryz.ntmps3
  go_wp2_with fail
  refine (big_yes A l.length cap w hs).mono ?_; rintro e w' ⟨rfl, rfl⟩
  go_wp2_with fail
  go_ret
  exact ⟨rfl, Below.refl _ _⟩
 ·have hs' : l.length ≤ 4096 := by omega
  have HN := Lib.hid hs'
  have HNM := Lib.hid hn
  have HA := Lib.hid hA
  have H8 := Lib.hid h8
  clear hs hn hA h8
  go_enter Tryz.func3, Tryz.ntmps3
  go_wp2_with fail
  refine (big_no A l.length cap w hs').mono ?_; rintro e w' ⟨rfl, rfl⟩
  clear hs'
  go_wp2_with fail
  refine (drawSealOf_calls A l cap w HN.out HA.out).mono ?_; rintro e w1 ⟨k1, A1, z1, c1, x1, B1, L1, t1, rfl, i1, l1, m1, j1, n1, h1, u1, b1⟩
  have K0 := Lib.hid ((Kept.refl w).below b1)
  have lw0 := b1.size
  have J0 := Lib.hid ((HA.out.below b1 (Nat.le_refl _)).more b1.size)
  have M0 := Lib.hid h1
  have N0 := Lib.hid u1
  clear h1 u1 b1 HA
  have hcase := sealN_case k1 z1 x1 L1 n1 j1
  have SO := Lib.hid (fun u hI hT => implSealOf_calls k1 A1 z1 c1 m1 x1 B1 L1 t1 u (by omega) hI (by omega) hT j1 i1)
  have SP := Lib.hid (fun u hI hT => specSealOf_calls k1 A1 z1 c1 x1 B1 L1 t1 u (by unfold maxLen; omega) hI (by omega) hT j1 i1)
  have MI := Lib.hid (fun u hI hT => implMac_calls k1 x1 A1 B1 z1 c1 m1 L1 t1 u (by omega) hI (by omega) hT j1 i1)
  have MS := Lib.hid (fun u hI hT => specMac_calls k1 x1 A1 B1 z1 c1 L1 t1 u (by unfold maxLen; omega) hI (by omega) hT j1 i1)
  have SK := Lib.hid (fun cnt A (L : List Tru) c mac u hL hI hT hTI hc => implSealOk_calls k1 A1 z1 c1 m1 cnt A L c mac u (by omega) hI hL hT hTI hc)
  generalize sealN k1 z1 x1 L1 = R at SO SP hcase
  generalize macOf k1 z1 x1 L1 = mo at MI MS
  obtain ⟨cn, SL, mn⟩ := R
  simp only [] at SO SP hcase
  obtain ⟨hs4, hsI, hcn, hcase⟩ := hcase
  have HSI := Lib.hid hsI
  have HCASE := Lib.hid hcase
  have hmo : (mo != mo) = false := by simp
  clear hsI hcase i1 j1 n1
  have K1 := Lib.hid (K0.out.put1 w1.heap.size 26 #[.int .i64 k1, .slice A1 z1.length c1] (rfl))
  have I2 := Lib.hid ((J0.out.below (box_below w1 (.cells #[.int .i64 k1, .slice A1 z1.length c1] 26)) (Nat.le_refl _)).more ((box_below w1 (.cells #[.int .i64 k1, .slice A1 z1.length c1] 26))).size)
  have I3 := Lib.hid ((M0.out.below (box_below w1 (.cells #[.int .i64 k1, .slice A1 z1.length c1] 26)) (Nat.le_refl _)).more ((box_below w1 (.cells #[.int .i64 k1, .slice A1 z1.length c1] 26))).size)
  have T4 := Lib.hid (Sls.grow N0.out (box_below w1 (.cells #[.int .i64 k1, .slice A1 z1.length c1] 26)))
  clear K0 J0 M0 N0
  have l0 : w1.heap.size < (w1.alloc (.cells #[.int .i64 k1, .slice A1 z1.length c1] 26)).heap.size := by simp
  go_upto_region 4 with fail
  generalize World.alloc w1 _ = v1 at K1 I2 I3 T4 l0 ⊢
  obtain ⟨kc0, kf0, -⟩ := K1.out.rd
  go_wp2_with fail
  refine (SO.out _ I3.out T4.out).mono ?_; rintro e wa ⟨A3, c3, rfl, r3, ba⟩
  clear kc0 kf0
  have lba := ba.size
  have K5 := Lib.hid (K1.out.below (ba))
  have I6 := Lib.hid ((I2.out.below ba (Nat.le_refl _)).more (ba).size)
  have I7 := Lib.hid ((I3.out.below ba (Nat.le_refl _)).more (ba).size)
  have T8 := Lib.hid (Sls.grow T4.out ba)
  clear K1 I2 I3 T4
  have R9 := Lib.hid (r3)
  have o3 : ∀ k, (Value.slice A3 SL.length c3).ownBlock = some k → k < wa.heap.size := fun k hk => (SRow.lt r3 hk).2
  have O3 := Lib.hid o3
  clear o3 r3 ba SO
  have K10 := Lib.hid (K5.out.put1 wa.heap.size 31 #[.int .i64 cn, .slice A3 SL.length c3, .int .i64 mn] (rfl))
  have I11 := Lib.hid ((I6.out.below (box_below wa (.cells #[.int .i64 cn, .slice A3 SL.length c3, .int .i64 mn] 31)) (Nat.le_refl _)).more ((box_below wa (.cells #[.int .i64 cn, .slice A3 SL.length c3, .int .i64 mn] 31))).size)
  have I12 := Lib.hid ((I7.out.below (box_below wa (.cells #[.int .i64 cn, .slice A3 SL.length c3, .int .i64 mn] 31)) (Nat.le_refl _)).more ((box_below wa (.cells #[.int .i64 cn, .slice A3 SL.length c3, .int .i64 mn] 31))).size)
  have T13 := Lib.hid (Sls.grow T8.out (box_below wa (.cells #[.int .i64 cn, .slice A3 SL.length c3, .int .i64 mn] 31)))
  have R14 := Lib.hid (SRow.below R9.out (box_below wa (.cells #[.int .i64 cn, .slice A3 SL.length c3, .int .i64 mn] 31)))
  clear K5 I6 I7 T8 R9
  have la : wa.heap.size < (wa.alloc (.cells #[.int .i64 cn, .slice A3 SL.length c3, .int .i64 mn] 31)).heap.size := by simp
  go_upto_region 5 with fail
  generalize World.alloc wa _ = v2 at K10 I11 I12 T13 R14 la ⊢
  go_wp2_with fail
  refine (drawSealOk_calls A l cap _ HN.out I11.out).mono ?_; rintro e wc ⟨k2, A2, z2, c2, n2, B2, L2, t2, q2, rfl, i2, l2, m2, j2, p2, h2, u2, bc⟩
  have K15 := Lib.hid (K10.out.below (bc))
  have I16 := Lib.hid ((I11.out.below bc (Nat.le_refl _)).more (bc).size)
  have I17 := Lib.hid ((I12.out.below bc (Nat.le_refl _)).more (bc).size)
  have T18 := Lib.hid (Sls.grow T13.out bc)
  have R19 := Lib.hid (SRow.below R14.out bc)
  clear K10 I11 I12 T13 R14
  have lc := bc.size
  have I20 := Lib.hid (h2)
  have T21 := Lib.hid (u2)
  have S2 := Lib.hid (fun u hI hT => implSealOk_calls k2 A2 z2 c2 m2 n2 B2 L2 t2 q2 u (by omega) hI (by omega) hT j2 i2)
  have S3 := Lib.hid (fun u hI hT => specSealOk_calls k2 A2 z2 c2 n2 B2 L2 t2 q2 u (by unfold maxLen; omega) hI (by omega) hT j2 i2)
  generalize sealB k2 z2 n2 L2 q2 = zb at S2 S3
  have hzb : (zb != zb) = false := by simp
  clear h2 u2 bc i2 j2 p2
  have K22 := Lib.hid (K15.out.put1 wc.heap.size 26 #[.int .i64 k2, .slice A2 z2.length c2] (rfl))
  have I23 := Lib.hid ((I16.out.below (box_below wc (.cells #[.int .i64 k2, .slice A2 z2.length c2] 26)) (Nat.le_refl _)).more ((box_below wc (.cells #[.int .i64 k2, .slice A2 z2.length c2] 26))).size)
  have I24 := Lib.hid ((I17.out.below (box_below wc (.cells #[.int .i64 k2, .slice A2 z2.length c2] 26)) (Nat.le_refl _)).more ((box_below wc (.cells #[.int .i64 k2, .slice A2 z2.length c2] 26))).size)
  have T25 := Lib.hid (Sls.grow T18.out (box_below wc (.cells #[.int .i64 k2, .slice A2 z2.length c2] 26)))
  have R26 := Lib.hid (SRow.below R19.out (box_below wc (.cells #[.int .i64 k2, .slice A2 z2.length c2] 26)))
  have I27 := Lib.hid ((I20.out.below (box_below wc (.cells #[.int .i64 k2, .slice A2 z2.length c2] 26)) (Nat.le_refl _)).more ((box_below wc (.cells #[.int .i64 k2, .slice A2 z2.length c2] 26))).size)
  have T28 := Lib.hid (Sls.grow T21.out (box_below wc (.cells #[.int .i64 k2, .slice A2 z2.length c2] 26)))
  clear K15 I16 I17 T18 R19 I20 T21
  have K29 := Lib.hid (K22.out.put1 (wc.heap.size + 1) 31 #[.int .i64 n2, .slice B2 L2.length t2, .int .i64 q2] (by simp))
  have I30 := Lib.hid ((I23.out.below (box_below (wc.alloc (.cells #[.int .i64 k2, .slice A2 z2.length c2] 26)) (.cells #[.int .i64 n2, .slice B2 L2.length t2, .int .i64 q2] 31)) (Nat.le_refl _)).more ((box_below (wc.alloc (.cells #[.int .i64 k2, .slice A2 z2.length c2] 26)) (.cells #[.int .i64 n2, .slice B2 L2.length t2, .int .i64 q2] 31))).size)
  have I31 := Lib.hid ((I24.out.below (box_below (wc.alloc (.cells #[.int .i64 k2, .slice A2 z2.length c2] 26)) (.cells #[.int .i64 n2, .slice B2 L2.length t2, .int .i64 q2] 31)) (Nat.le_refl _)).more ((box_below (wc.alloc (.cells #[.int .i64 k2, .slice A2 z2.length c2] 26)) (.cells #[.int .i64 n2, .slice B2 L2.length t2, .int .i64 q2] 31))).size)
  have T32 := Lib.hid (Sls.grow T25.out (box_below (wc.alloc (.cells #[.int .i64 k2, .slice A2 z2.length c2] 26)) (.cells #[.int .i64 n2, .slice B2 L2.length t2, .int .i64 q2] 31)))
  have R33 := Lib.hid (SRow.below R26.out (box_below (wc.alloc (.cells #[.int .i64 k2, .slice A2 z2.length c2] 26)) (.cells #[.int .i64 n2, .slice B2 L2.length t2, .int .i64 q2] 31)))
  have I34 := Lib.hid ((I27.out.below (box_below (wc.alloc (.cells #[.int .i64 k2, .slice A2 z2.length c2] 26)) (.cells #[.int .i64 n2, .slice B2 L2.length t2, .int .i64 q2] 31)) (Nat.le_refl _)).more ((box_below (wc.alloc (.cells #[.int .i64 k2, .slice A2 z2.length c2] 26)) (.cells #[.int .i64 n2, .slice B2 L2.length t2, .int .i64 q2] 31))).size)
  have T35 := Lib.hid (Sls.grow T28.out (box_below (wc.alloc (.cells #[.int .i64 k2, .slice A2 z2.length c2] 26)) (.cells #[.int .i64 n2, .slice B2 L2.length t2, .int .i64 q2] 31)))
  clear K22 I23 I24 T25 R26 I27 T28
  have ld : wc.heap.size < ((wc.alloc (.cells #[.int .i64 k2, .slice A2 z2.length c2] 26)).alloc (.cells #[.int .i64 n2, .slice B2 L2.length t2, .int .i64 q2] 31)).heap.size := by simp <;> omega
  go_upto_region 6 with fail
  generalize World.alloc (World.alloc wc _) _ = v4 at K29 I30 I31 T32 R33 I34 T35 ld ⊢
  have hmx : SL.length ≤ maxLen := by unfold maxLen; omega
  have HK := Lib.hid K29.out.drew
  refine wp_region_known [false, false, false, false, true, true, false, false, false, false, false, false, false, false, false, false, false, false, false, false, false, false, false, false, false, false, false] [false, false, false, false, false, false, false, false, false, false, false, true, false, false, false, true, false, false, false, false, false, true, false, false, true, false, false] [false, false, false, false, true, true, false, false, false, false, false, true, false, false, false, true, false, false, false, false, false, true, false, false, true, false, false] (fun i => if i = 11 then .int .i64 mo else if i = 15 then .int .i64 mo else .bool zb) (fun i v => (i = 4 → ∃ (A : Option Addr) (c : Nat), v = .agg #[.int .i64 cn, .slice A SL.length c, .int .i64 mn]) ∧ (i = 5 → v = .bool true)) (fun D γ u => AndC (AndC (fun _ _ u => Kept w [(wc.heap.size + 1, 31, #[.int .i64 n2, .slice B2 L2.length t2, .int .i64 q2]), (wc.heap.size, 26, #[.int .i64 k2, .slice A2 z2.length c2]), (wa.heap.size, 31, #[.int .i64 cn, .slice A3 SL.length c3, .int .i64 mn]), (w1.heap.size, 26, #[.int .i64 k1, .slice A1 z1.length c1])] u) (fun _ _ u => Below v4.heap.size v4 u)) (HoldC 4 5 (SealZ cn mn SL)) D γ u) (by kernel_rfl) (by kernel_rfl) (by kernel_rfl) (fun γ => by kernel_rfl) (fun D γ γ' w ha h => ⟨h.1, h.2.loc ha⟩) (fun i => ?inh) (fun γ => ⟨⟨HK.out, (Below.refl _ _).drew⟩, HoldC.start⟩) (fun γ hγ => ?_)
  case inh =>
   by_cases h1 : i = 4
   ·subst h1; exact ⟨.agg #[.int .i64 cn, .slice none SL.length 0, .int .i64 mn], fun _ => ⟨none, 0, rfl⟩, fun e => (by cases e)⟩
   ·exact ⟨.bool true, fun e => absurd e h1, fun _ => rfl⟩
  obtain ⟨G, cG, g4⟩ := (hγ 4 rfl).1 rfl
  have g5 : γ 5 = .bool true := (hγ 5 rfl).2 rfl
  clear HK
  apply Exists.intro
  refine ⟨fun D => ?_, ?_, ?_, ?_⟩
  ·have e4 : gam [false, false, false, false, false, false, false, false, false, false, false, true, false, false, false, true, false, false, false, false, false, true, false, false, true, false, false] (fun i => if i = 11 then .int .i64 mo else if i = 15 then .int .i64 mo else .bool zb) γ 4 = γ 4 := rfl
   have e5 : gam [false, false, false, false, false, false, false, false, false, false, false, true, false, false, false, true, false, false, false, false, false, true, false, false, true, false, false] (fun i => if i = 11 then .int .i64 mo else if i = 15 then .int .i64 mo else .bool zb) γ 5 = γ 5 := rfl
   have e11 : gam [false, false, false, false, false, false, false, false, false, false, false, true, false, false, false, true, false, false, false, false, false, true, false, false, true, false, false] (fun i => if i = 11 then .int .i64 mo else if i = 15 then .int .i64 mo else .bool zb) γ 11 = .int .i64 mo := rfl
   have e15 : gam [false, false, false, false, false, false, false, false, false, false, false, true, false, false, false, true, false, false, false, false, false, true, false, false, true, false, false] (fun i => if i = 11 then .int .i64 mo else if i = 15 then .int .i64 mo else .bool zb) γ 15 = .int .i64 mo := rfl
   have e21 : gam [false, false, false, false, false, false, false, false, false, false, false, true, false, false, false, true, false, false, false, false, false, true, false, false, true, false, false] (fun i => if i = 11 then .int .i64 mo else if i = 15 then .int .i64 mo else .bool zb) γ 21 = .bool zb := rfl
   have e24 : gam [false, false, false, false, false, false, false, false, false, false, false, true, false, false, false, true, false, false, false, false, false, true, false, false, true, false, false] (fun i => if i = 11 then .int .i64 mo else if i = 15 then .int .i64 mo else .bool zb) γ 24 = .bool zb := rfl
   simp only [hushL, cond_true, cond_false, Nat.reduceAdd, e4, e5, e11, e15, e21, e24, g4, g5]
   clear e4 e5 e11 e15 e21 e24
   iterate 27 (first
    | go_big_quiet_skip
    | (go_big_quiet_want
       go_big_quiet_op
       first
        | go_big_quiet_on
        | (apply Exists.intro
           refine ⟨fun u hu => ?_, ?_⟩
           ·first
              | with_reducible rfl
              | (obtain ⟨kc0, kf0, kc1, kf1, kc2, kf2, kc3, kf3, -⟩ := hu.1.1.rd; go_simp; first | done | with_reducible rfl)
           go_big_quiet_on)))
   exact wpQuiet_nil rfl
  ·simp only [freeOk, Nat.reduceAdd]
   refine ⟨fun D u hD hd hu => ?_, fun D u hD hd hu => ?_, trivial⟩
   ·exact steps_call ((SP.out u ((I31.out.below hu.1.2 (Nat.le_refl _)).more hu.1.2.size) (Sls.grow T32.out hu.1.2)).mono fun e w' ⟨A9, c9, he, hr, hb⟩ => ⟨_, he, ⟨fun _ => ⟨A9, c9, rfl⟩, fun e => (by cases e)⟩, ⟨⟨hu.1.1.below hb, hu.1.2.trans (hb.mono hu.1.2.size)⟩, HoldC.put ⟨A9, c9, rfl, TrRow.reads_ hr⟩⟩⟩) rfl rfl rfl rfl (by kernel_rfl)
   ·obtain ⟨A9, c9, e9, hT⟩ := hu.2 (hd { on := 4, ground := Ground.data } (by simp) rfl rfl) hD
    rw [g4] at e9
    obtain ⟨rfl, rfl⟩ : G = A9 ∧ cG = c9 := by simpa using e9
    exact steps_call ((likeSeal_same cn mn A3 G SL c3 cG u hmx (TrRow.reads_ (SRow.below R33.out hu.1.2)) hT).mono fun e w' ⟨he, hb⟩ => ⟨_, he, ⟨fun e => (by cases e), fun _ => rfl⟩, ⟨⟨hu.1.1.below hb, hu.1.2.trans (hb.mono hu.1.2.size)⟩, HoldC.used⟩⟩) rfl rfl rfl rfl (by kernel_rfl)
  ·simp only [knownOk, Nat.reduceAdd]
   refine ⟨fun D u hd hu => ?_, fun D u hd hu => ?_, fun D u hd hu => ?_, fun D u hd hu => ?_, trivial⟩
   ·exact steps_call ((MI.out u ((I31.out.below hu.1.2 (Nat.le_refl _)).more hu.1.2.size) (Sls.grow T32.out hu.1.2)).mono fun e w' ⟨he, hb⟩ => ⟨_, he, rfl, ⟨⟨hu.1.1.below hb, hu.1.2.trans (hb.mono hu.1.2.size)⟩, hu.2.below (SealZ.below cn mn SL) hb⟩⟩) rfl rfl rfl rfl (by kernel_rfl)
   ·exact steps_call ((MS.out u ((I31.out.below hu.1.2 (Nat.le_refl _)).more hu.1.2.size) (Sls.grow T32.out hu.1.2)).mono fun e w' ⟨he, hb⟩ => ⟨_, he, rfl, ⟨⟨hu.1.1.below hb, hu.1.2.trans (hb.mono hu.1.2.size)⟩, hu.2.below (SealZ.below cn mn SL) hb⟩⟩) rfl rfl rfl rfl (by kernel_rfl)
   ·exact steps_call ((S2.out u ((I34.out.below hu.1.2 (Nat.le_refl _)).more hu.1.2.size) (Sls.grow T35.out hu.1.2)).mono fun e w' ⟨he, hb⟩ => ⟨_, he, rfl, ⟨⟨hu.1.1.below hb, hu.1.2.trans (hb.mono hu.1.2.size)⟩, hu.2.below (SealZ.below cn mn SL) hb⟩⟩) rfl rfl rfl rfl (by kernel_rfl)
   ·exact steps_call ((S3.out u ((I34.out.below hu.1.2 (Nat.le_refl _)).more hu.1.2.size) (Sls.grow T35.out hu.1.2)).mono fun e w' ⟨he, hb⟩ => ⟨_, he, rfl, ⟨⟨hu.1.1.below hb, hu.1.2.trans (hb.mono hu.1.2.size)⟩, hu.2.below (SealZ.below cn mn SL) hb⟩⟩) rfl rfl rfl rfl (by kernel_rfl)
  ·intro D uf hD hu
   have hkf := hu.1.1
   have hbf := hu.1.2
   clear hu hD hγ
   have K36 := Lib.hid (hkf)
   have I37 := Lib.hid ((I30.out.below hbf (Nat.le_refl _)).more (hbf).size)
   have I38 := Lib.hid ((I31.out.below hbf (Nat.le_refl _)).more (hbf).size)
   have T39 := Lib.hid (Sls.grow T32.out hbf)
   have R40 := Lib.hid (SRow.below R33.out hbf)
   have I41 := Lib.hid ((I34.out.below hbf (Nat.le_refl _)).more (hbf).size)
   have T42 := Lib.hid (Sls.grow T35.out hbf)
   clear K29 I30 I31 T32 R33 I34 T35
   clear hbf hkf SP MI MS S2 S3 hmo hzb
   obtain ⟨kc0, kf0, kc1, kf1, kc2, kf2, kc3, kf3, -⟩ := K36.out.rd
   rcases HCASE.out with he | hne
   ·subst he
    go_wp2_with fail
    refine (SK.out cn A3 [] c3 mn _ (by simp) I38.out (TrRow.reads_ R40.out) HSI.out ⟨by omega, by omega⟩).mono ?_; rintro e wz ⟨rfl, bz⟩
    have BZ := Lib.hid (K36.out.below bz).1
    have hno : sealB k1 z1 cn [] mn = false := seal_none
    rw [hno]
    clear bz
    go_wp2_with fail
    go_ret
    exact ⟨rfl, BZ.out⟩
   ·obtain ⟨hok, hmn, hpos⟩ := hne
    have HOK := Lib.hid hok
    have HMN := Lib.hid hmn
    clear hok hmn HCASE
    have hmb := mac_bd (key := k1) (cnt := cn) (l := z1) (L := SL)
    rw [← HMN.out] at hmb
    have hw1 : IntKind.i64.wrap (cn + 1) = cn + 1 := IntWalk.i64_in _ (by omega)
    have hw2 : IntKind.i64.wrap (mn + 1) = mn + 1 := IntWalk.i64_in _ (by omega)
    have hlz : ((SL.length : Int) == 0) = false := beq_false_of_ne (by omega)
    have HB0 := Lib.hid (Below.refl uf.heap.size uf)
    have lu0 : wc.heap.size + 1 < uf.heap.size := K36.out.lt (x := (wc.heap.size + 1, 31, #[.int .i64 n2, .slice B2 L2.length t2, .int .i64 q2])) (by simp)
    have lu1 : wc.heap.size < uf.heap.size := K36.out.lt (x := (wc.heap.size, 26, #[.int .i64 k2, .slice A2 z2.length c2])) (by simp)
    have lu2 : wa.heap.size < uf.heap.size := K36.out.lt (x := (wa.heap.size, 31, #[.int .i64 cn, .slice A3 SL.length c3, .int .i64 mn])) (by simp)
    have lu3 : w1.heap.size < uf.heap.size := K36.out.lt (x := (w1.heap.size, 26, #[.int .i64 k1, .slice A1 z1.length c1])) (by simp)
    go_upto_region 11 with fail
    clear kc0 kf0 kc1 kf1 kc2 kf2 kc3 kf3
    go_upto_region 12 with fail
    have szva : uf.heap.size < (uf.alloc (.cells #[.int .i64 (cn + 1), .slice A3 SL.length c3, .int .i64 mn] 31)).heap.size := by simp
    have K43 := Lib.hid (K36.out.put1 uf.heap.size 31 #[.int .i64 (cn + 1), .slice A3 SL.length c3, .int .i64 mn] (rfl))
    have B44 := Lib.hid (HB0.out.trans (((box_below uf (.cells #[.int .i64 (cn + 1), .slice A3 SL.length c3, .int .i64 mn] 31))).mono HB0.out.size))
    clear K36 HB0
    generalize World.alloc uf _ = va at K43 B44 szva ⊢
    obtain ⟨kc0, kf0, kc1, kf1, kc2, kf2, kc3, kf3, kc4, kf4, -⟩ := K43.out.rd
    go_upto_region 13 with fail
    clear kc0 kf0 kc1 kf1 kc2 kf2 kc3 kf3 kc4 kf4
    go_upto_region 14 with fail
    have szvb : va.heap.size < (va.alloc (.cells #[.int .i64 cn, .slice A3 SL.length c3, .int .i64 (mn + 1)] 31)).heap.size := by simp
    have K45 := Lib.hid (K43.out.put1 va.heap.size 31 #[.int .i64 cn, .slice A3 SL.length c3, .int .i64 (mn + 1)] (rfl))
    have B46 := Lib.hid (B44.out.trans (((box_below va (.cells #[.int .i64 cn, .slice A3 SL.length c3, .int .i64 (mn + 1)] 31))).mono B44.out.size))
    clear K43 B44
    generalize World.alloc va _ = vb at K45 B46 szvb ⊢
    obtain ⟨kc0, kf0, kc1, kf1, kc2, kf2, kc3, kf3, kc4, kf4, kc5, kf5, -⟩ := K45.out.rd
    go_upto_region 15 with fail
    clear kc0 kf0 kc1 kf1 kc2 kf2 kc3 kf3 kc4 kf4 kc5 kf5
    have szvc : vb.heap.size < (vb.alloc (.cells #[.int .i64 cn, .slice A3 SL.length c3, .int .i64 mn] 31)).heap.size := by simp
    have K47 := Lib.hid (K45.out.put1 vb.heap.size 31 #[.int .i64 cn, .slice A3 SL.length c3, .int .i64 mn] (rfl))
    have B48 := Lib.hid (B46.out.trans (((box_below vb (.cells #[.int .i64 cn, .slice A3 SL.length c3, .int .i64 mn] 31))).mono B46.out.size))
    clear K45 B46
    generalize World.alloc vb _ = vc at K47 B48 szvc ⊢
    have HE := Lib.hid ((Below.refl vc.heap.size vc).alloc (Nat.le_refl _) (.cells #[] 43))
    have HNW := Lib.hid ((Sls.grow (TrRow.reads_ (SRow.below R40.out B48.out)) HE.out).news truV_len (by omega))
    have HRW := Lib.hid (SRow.made (enc := truV) (n := 8) (T := 43) vc (Nat.le_refl _))
    have hfl : (flatS truV SL).length = SL.length * 8 := flatS_length truV_len
    have hf1 := truV_one SL
    have hke := K47.out.below HE.out
    obtain ⟨kc0, kf0, kc1, kf1, kc2, kf2, kc3, kf3, kc4, kf4, kc5, kf5, kc6, kf6, -⟩ := hke.rd
    clear hke
    go_wp2_with (at_builtin; refine wpList_append_row rfl _ _ 27 rfl vc.heap.size 43 8 64 0 (.agg #[.int .i64 0, .int .i64 0, .int .i64 0, .int .i64 0, .int .i64 0, .int .i64 0, .int .i64 0, .bool false]) (.slice (some ⟨vc.heap.size, 0, none⟩) 0 0) [] A3 SL.length c3 (flatS truV SL) Tryz.underlying27 info_tru rfl (by omega) rfl HRW.out rfl hfl HNW.out hf1 (by unfold maxLen; omega) (by omega) (by simp) ?_)
    intro v' w' hown hg _
    have hbw : Below vc.heap.size vc w' := bgb HE.out (g := vc.heap.size) (by simpa [Value.ownBlock] using hg) (by simp) (Nat.le_refl _)
    have hrow : TrRow w' vc.heap.size v' SL := by have h := hown; exact h
    obtain ⟨gc, cc, rfl, hgc0, hgc1⟩ := TrRow.block hrow hpos
    clear kc0 kf0 kc1 kf1 kc2 kf2 kc3 kf3 kc4 kf4 kc5 kf5 kc6 kf6
    clear HE HNW HRW hfl hf1 hown hg
    have K49 := Lib.hid (K47.out.below (hbw))
    have B50 := Lib.hid (B48.out.trans ((hbw).mono B48.out.size))
    clear K47 B48
    clear hbw
    obtain ⟨kc0, kf0, kc1, kf1, kc2, kf2, kc3, kf3, kc4, kf4, kc5, kf5, kc6, kf6, -⟩ := K49.out.rd
    have lx0 := K49.out.lt (x := (vb.heap.size, 31, #[.int .i64 cn, .slice A3 SL.length c3, .int .i64 mn])) (by simp)
    have lx1 := K49.out.lt (x := (va.heap.size, 31, #[.int .i64 cn, .slice A3 SL.length c3, .int .i64 (mn + 1)])) (by simp)
    have lx2 := K49.out.lt (x := (uf.heap.size, 31, #[.int .i64 (cn + 1), .slice A3 SL.length c3, .int .i64 mn])) (by simp)
    have lx3 := K49.out.lt (x := (wc.heap.size + 1, 31, #[.int .i64 n2, .slice B2 L2.length t2, .int .i64 q2])) (by simp)
    have lx4 := K49.out.lt (x := (wc.heap.size, 26, #[.int .i64 k2, .slice A2 z2.length c2])) (by simp)
    have lx5 := K49.out.lt (x := (wa.heap.size, 31, #[.int .i64 cn, .slice A3 SL.length c3, .int .i64 mn])) (by simp)
    have lx6 := K49.out.lt (x := (w1.heap.size, 26, #[.int .i64 k1, .slice A1 z1.length c1])) (by simp)
    simp only [] at lx0 lx1 lx2 lx3 lx4 lx5 lx6
    go_upto_region 16 with fail
    have hk16 : Kept w [(vb.heap.size, 31, #[.int .i64 cn, .slice (some ⟨gc, 0, none⟩) SL.length cc, .int .i64 mn]), (va.heap.size, 31, #[.int .i64 cn, .slice A3 SL.length c3, .int .i64 (mn + 1)]), (uf.heap.size, 31, #[.int .i64 (cn + 1), .slice A3 SL.length c3, .int .i64 mn]), (wc.heap.size + 1, 31, #[.int .i64 n2, .slice B2 L2.length t2, .int .i64 q2]), (wc.heap.size, 26, #[.int .i64 k2, .slice A2 z2.length c2]), (wa.heap.size, 31, #[.int .i64 cn, .slice A3 SL.length c3, .int .i64 mn]), (w1.heap.size, 26, #[.int .i64 k1, .slice A1 z1.length c1])] (w'.setCell ⟨vb.heap.size, 1, none⟩ (.slice (some ⟨gc, 0, none⟩) SL.length cc)) := K49.out.put (k := 0) rfl (by unfold Apart; simp <;> omega) (gb_set (gb_refl w' (some (vb.heap.size))) 1 _) ((K49.out.at_ (p := vb.heap.size) (t := 31) (cs := #[.int .i64 cn, .slice A3 SL.length c3, .int .i64 mn]) (by simp)).set_ 1 _)
    have hb16 : Below uf.heap.size uf (w'.setCell ⟨vb.heap.size, 1, none⟩ (.slice (some ⟨gc, 0, none⟩) SL.length cc)) := B50.out.setCell (p := ⟨vb.heap.size, 1, none⟩) (by simp only []; omega) _
    have hr16 := SRow.grown hrow (gb_set (gb_refl w' (some (vb.heap.size))) 1 (.slice (some ⟨gc, 0, none⟩) SL.length cc)) (by omega)
    clear kc0 kf0 kc1 kf1 kc2 kf2 kc3 kf3 kc4 kf4 kc5 kf5 kc6 kf6
    clear hrow K49 B50
    generalize World.setCell _ _ _ = v16 at hk16 hb16 hr16 ⊢
    have K16 := Lib.hid hk16
    have B16 := Lib.hid hb16
    have R16 := Lib.hid hr16
    clear hk16 hb16 hr16
    obtain ⟨kc0, kf0, kc1, kf1, kc2, kf2, kc3, kf3, kc4, kf4, kc5, kf5, kc6, kf6, -⟩ := K16.out.rd
    have szv : vc.heap.size ≤ v16.heap.size := by have := R16.out.lt rfl; omega
    have IAX := Lib.hid (show Ints v16.drew .u8 v16.drew.heap.size A l from (I37.out.below B16.out.drew (Nat.le_refl _)).more B16.out.drew.size)
    have hli : ((SL.length : Nat) : Int) ≥ 1 := by omega
    go_region_with (first
     | (go_at_call 14; refine (roll_calls A l cap 9 _ HNM.out IAX.out).mono ?_; rintro e wx ⟨rfl, bx, dx⟩; have HBX := Lib.hid bx; have HDX := Lib.hid dx; have kx := K16.out.drew.below bx; obtain ⟨mc0, mf0, mc1, mf1, mc2, mf2, mc3, mf3, mc4, mf4, mc5, mf5, mc6, mf6, -⟩ := kx.rd; clear kx bx dx)
     | (go_at_call 15; refine (throw_calls _ A l cap (SL.length : Int) _ HNM.out HDX.out H8.out (by omega)).mono ?_; rintro e wy ⟨m, rfl, ⟨m0, m1⟩, gy, dy⟩; have HGY := Lib.hid gy; clear gy dy))
    all_goals
     have hbw := bgb HBX.out HGY.out HBX.out.size (Nat.le_refl _)
     have K17 := Lib.hid (K16.out.drew.below hbw)
     have B17 := Lib.hid (B16.out.drew.trans (hbw.mono B16.out.drew.size))
     have R17 := Lib.hid (SRow.below (show TrRow v16.drew vc.heap.size (.slice (some ⟨gc, 0, none⟩) SL.length cc) SL from R16.out) hbw)
     clear hbw HBX HGY HDX IAX K16 B16 R16
     clear kc0 kf0 kc1 kf1 kc2 kf2 kc3 kf3 kc4 kf4 kc5 kf5 kc6 kf6
     obtain ⟨k, rfl⟩ := Int.eq_ofNat_of_zero_le m0
     have hk : k < SL.length := by omega
     have hk' : (k : Int) < SL.length := by omega
     have hk0 : (0 : Int) ≤ k := by omega
     clear m0 m1
     obtain ⟨bT, oT, eT, tc⟩ := Trs.at_ (TrRow.reads_ R17.out) hk
     injection eT with eT
     injection eT with eT1 eT2
     subst eT1 eT2
     obtain ⟨-, tc⟩ := tc
     obtain ⟨tc0, tc1, tc2, tc3, tc4, tc5, tc6, tc7⟩ := tc
     rw [Nat.zero_add] at tc7
     clear tc0 tc1 tc2 tc3 tc4 tc5 tc6
     have hfz : ∀ i, wy.frozen? ⟨gc, i, none⟩ = false := TrRow.frz R17.out
     have HTI := Lib.hid (HSI.out k hk)
     have HFL := Lib.hid (seal_flag (cnt := cn) hk HOK.out hcn)
     have HST := Lib.hid (fun (x : Value) (t' : Tru) (ht : truV t' = (truV (SL.getD k default)).set 7 x) => TrRow.set1 R17.out hk (j := 7) (by omega) t' x ht)
     generalize SL.getD k default = tt at tc7 HTI HFL HST
     go_upto_region 17 with fail
     obtain ⟨kc0, kf0, kc1, kf1, kc2, kf2, kc3, kf3, kc4, kf4, kc5, kf5, kc6, kf6, -⟩ := K17.out.rd
     have K18 := Lib.hid (show Kept w [(vb.heap.size, 31, #[.int .i64 cn, .slice (some ⟨gc, 0, none⟩) SL.length cc, .int .i64 mn]), (va.heap.size, 31, #[.int .i64 cn, .slice A3 SL.length c3, .int .i64 (mn + 1)]), (uf.heap.size, 31, #[.int .i64 (cn + 1), .slice A3 SL.length c3, .int .i64 mn]), (wc.heap.size + 1, 31, #[.int .i64 n2, .slice B2 L2.length t2, .int .i64 q2]), (wc.heap.size, 26, #[.int .i64 k2, .slice A2 z2.length c2]), (wa.heap.size, 31, #[.int .i64 cn, .slice A3 SL.length c3, .int .i64 mn]), (w1.heap.size, 26, #[.int .i64 k1, .slice A1 z1.length c1])] ((wy.setCell ⟨gc, k * 8 + 7, none⟩ (.bool (!tt.failed))).drew) from (K17.out.grown (gb_set (gb_refl wy (some gc)) (k * 8 + 7) (.bool (!tt.failed))) (by omega) (by intro y hy; simp at hy; rcases hy with rfl | rfl | rfl | rfl | rfl | rfl | rfl <;> (simp only []; omega))).drew)
     have B18 := Lib.hid (show Below uf.heap.size uf ((wy.setCell ⟨gc, k * 8 + 7, none⟩ (.bool (!tt.failed))).drew) from (B17.out.setCell (p := ⟨gc, k * 8 + 7, none⟩) (by simp only []; omega) _).drew)
     have R18 := Lib.hid (show TrRow ((wy.setCell ⟨gc, k * 8 + 7, none⟩ (.bool (!tt.failed))).drew) vc.heap.size (.slice (some ⟨gc, 0, none⟩) SL.length cc) (SL.set k { tt with failed := !tt.failed }) from HST.out (.bool (!tt.failed)) { tt with failed := !tt.failed } rfl)
     go_region
     all_goals
      go_upto_region 18 with fail
      clear K17 B17 R17 HST hfz tc7
      generalize World.drew _ = w18 at K18 B18 R18 ⊢
      clear kc0 kf0 kc1 kf1 kc2 kf2 kc3 kf3 kc4 kf4 kc5 kf5 kc6 kf6
      have HE1 := Lib.hid (show sealB k1 z1 cn SL mn = true by rw [HMN.out]; exact seal_right HOK.out hcn)
      have HE2 := Lib.hid (show sealB k1 z1 (cn + 1) SL mn = false by rw [HMN.out]; exact seal_count HOK.out hcn)
      have HE3 := Lib.hid (show sealB k1 z1 cn SL (mn + 1) = false by rw [HMN.out]; exact seal_mac)
      have HE4 := Lib.hid (show sealB k1 z1 cn (SL.set k { tt with failed := !tt.failed }) mn = false by rw [HMN.out]; exact HFL.out)
      have HSJ := Lib.hid (HSI.out.set k (t := { tt with failed := !tt.failed }) HTI.out)
      have hsl : SL.length ≤ 1048576 := by omega
      clear HFL HTI hw1 hw2
      have S9 := SK.out cn A3 SL c3 mn _ hsl ((I38.out.below B18.out (Nat.le_refl _)).more B18.out.size) (TrRow.reads_ (SRow.below R40.out B18.out)) HSI.out ⟨by omega, by omega⟩
      rw [HE1.out] at S9
      have H9 := Lib.hid S9
      clear S9
      obtain ⟨kc0, kf0, kc1, kf1, kc2, kf2, kc3, kf3, kc4, kf4, kc5, kf5, kc6, kf6, -⟩ := K18.out.rd
      go_wp2_with fail
      refine H9.out.mono ?_; rintro e wz ⟨rfl, bz⟩
      clear kc0 kf0 kc1 kf1 kc2 kf2 kc3 kf3 kc4 kf4 kc5 kf5 kc6 kf6
      clear H9
      have K51 := Lib.hid (K18.out.below (bz))
      have B52 := Lib.hid (B18.out.trans ((bz).mono B18.out.size))
      have R53 := Lib.hid (SRow.below R18.out bz)
      clear K18 B18 R18
      clear bz
      have S9 := SK.out (cn + 1) A3 SL c3 mn _ hsl ((I38.out.below B52.out (Nat.le_refl _)).more B52.out.size) (TrRow.reads_ (SRow.below R40.out B52.out)) HSI.out ⟨by omega, by omega⟩
      rw [HE2.out] at S9
      have H9 := Lib.hid S9
      clear S9
      obtain ⟨kc0, kf0, kc1, kf1, kc2, kf2, kc3, kf3, kc4, kf4, kc5, kf5, kc6, kf6, -⟩ := K51.out.rd
      go_wp2_with fail
      refine H9.out.mono ?_; rintro e wz ⟨rfl, bz⟩
      clear kc0 kf0 kc1 kf1 kc2 kf2 kc3 kf3 kc4 kf4 kc5 kf5 kc6 kf6
      clear H9
      have K54 := Lib.hid (K51.out.below (bz))
      have B55 := Lib.hid (B52.out.trans ((bz).mono B52.out.size))
      have R56 := Lib.hid (SRow.below R53.out bz)
      clear K51 B52 R53
      clear bz
      have S9 := SK.out cn A3 SL c3 (mn + 1) _ hsl ((I38.out.below B55.out (Nat.le_refl _)).more B55.out.size) (TrRow.reads_ (SRow.below R40.out B55.out)) HSI.out ⟨by omega, by omega⟩
      rw [HE3.out] at S9
      have H9 := Lib.hid S9
      clear S9
      obtain ⟨kc0, kf0, kc1, kf1, kc2, kf2, kc3, kf3, kc4, kf4, kc5, kf5, kc6, kf6, -⟩ := K54.out.rd
      go_wp2_with fail
      refine H9.out.mono ?_; rintro e wz ⟨rfl, bz⟩
      clear kc0 kf0 kc1 kf1 kc2 kf2 kc3 kf3 kc4 kf4 kc5 kf5 kc6 kf6
      clear H9
      have K57 := Lib.hid (K54.out.below (bz))
      have B58 := Lib.hid (B55.out.trans ((bz).mono B55.out.size))
      have R59 := Lib.hid (SRow.below R56.out bz)
      clear K54 B55 R56
      clear bz
      have S9 := SK.out cn (some ⟨gc, 0, none⟩) (SL.set k { tt with failed := !tt.failed }) cc mn _ (by rw [List.length_set]; exact hsl) ((I38.out.below B58.out (Nat.le_refl _)).more B58.out.size) (TrRow.reads_ R59.out) HSJ.out ⟨by omega, by omega⟩
      rw [List.length_set] at S9
      rw [HE4.out] at S9
      have H9 := Lib.hid S9
      clear S9
      obtain ⟨kc0, kf0, kc1, kf1, kc2, kf2, kc3, kf3, kc4, kf4, kc5, kf5, kc6, kf6, -⟩ := K57.out.rd
      go_wp2_with fail
      refine H9.out.mono ?_; rintro e wz ⟨rfl, bz⟩
      clear kc0 kf0 kc1 kf1 kc2 kf2 kc3 kf3 kc4 kf4 kc5 kf5 kc6 kf6
      clear H9
      have K60 := Lib.hid (K57.out.below (bz))
      have B61 := Lib.hid (B58.out.trans ((bz).mono B58.out.size))
      have R62 := Lib.hid (SRow.below R59.out bz)
      clear K57 B58 R59
      clear bz
      have HZ := Lib.hid K60.out.1
      go_wp2_with fail
      go_ret
      exact ⟨rfl, HZ.out⟩
end Go.Proofs.YtodmponjjhokdaaGreat.Mx
namespace Go.Proofs.YtodmponjjhokdaaGreat.Mx
open Go.ChangeShapes Go.WideShapes Go.ChangeAt Go.RowKit
set_option linter.unusedVariables false
def IsRow (k : IntKind) (w : World) (a : Option Addr) (len cap : Nat) (zs : List Int) : Prop :=
 (a = none ∧ len = 0 ∧ cap = 0 ∧ zs = []) ∨
 ∃ x, a = some x ∧ len ≤ cap ∧ cap ≤ maxLen ∧ zs.length = cap ∧ (∀ i, i < zs.length → w.cell? (x.add i) = some (.int k (zs.getD i 0))) ∧ ∀ n ∈ zs, (Lit.int k n).wf = true
section
variable {H : Type} {enc : TypeId × Value → H} {P : Program} {w : World} {base : Nat} {spare : Nat → Bool} {held : Bool}
theorem row_of_trod {t e : TypeId} {k : IntKind} {a : Option Addr} {len cap : Nat} {d : DataW H} {p : List MemPlace} (ht : P.underlying t = some (.slice e)) (he : P.underlying e = some (.int k)) (hc : P.cellsOf e = 1)
    (h : DataW.Trod enc P w base (fun _ => true) held t (.slice a len cap) d p) : ∃ zs, IsRow k w a len cap zs := by
 obtain ⟨fuel, hf⟩ := h
 rcases open_ints ht he hc hf with ⟨hcs, _⟩ | ⟨x, l, c, zs, hcs, _, hl, hm, hz, _, hcell, hwz⟩
 ·simp [Value.cells] at hcs
  obtain ⟨rfl, rfl, rfl⟩ := hcs
  exact ⟨[], .inl ⟨rfl, rfl, rfl, rfl⟩⟩
 ·simp [Value.cells] at hcs
  obtain ⟨rfl, rfl, rfl⟩ := hcs
  exact ⟨zs, .inr ⟨_, rfl, hl, hm, by simpa using hz, hcell, hwz⟩⟩
end
end Go.Proofs.YtodmponjjhokdaaGreat.Mx

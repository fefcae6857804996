import Derived.Test.YteopplldbcgjjaaGreatDoorE06
import Derived.Test.YteopplldbcgjjaaGreatDoorE14
import Derived.Test.YteopplldbcgjjaaGreatDoorE05
import Derived.Test.YteopplldbcgjjaaGreatDoorE07
import Derived.Test.YteopplldbcgjjaaGreatDoorE03
import Derived.Test.YteopplldbcgjjaaGreatDoorE11
import Derived.Test.YteopplldbcgjjaaGreatDoorRows
import Derived.LaidLaws
import Derived.LaidMore
import Derived.LaidHandle
import Derived.Test.YteopplldbcgjjaaGreatDoorE02
import Derived.OpenShut
import Derived.ShutString
import Derived.ChangeOld
import Derived.Lib.SmallJoins
import Derived.ChangeArms
namespace Go.Proofs.YteopplldbcgjjaaGreatDoor.Mx
open Go.RowKit
set_option linter.unusedVariables false
def AndC (P Q : (Nat → Bool) → (Nat → Value) → World → Prop) (D : Nat → Bool) (γ : Nat → Value) (u : World) : Prop := P D γ u ∧ Q D γ u
def HoldC (k q : Nat) (P : Value → World → Prop) (D : Nat → Bool) (γ : Nat → Value) (u : World) : Prop := D k = true → D q = false → P (γ k) u
def ShX (k : Nat) (S : Value → Prop) (Sh : Nat → Value → Prop) : Nat → Value → Prop := fun i v => bif i == k then S v else Sh i v
theorem ShX.inh {k : Nat} {S : Value → Prop} {Sh : Nat → Value → Prop} (hS : ∃ v, S v) (h : ∀ i, ∃ v, Sh i v) (i : Nat) : ∃ v, ShX k S Sh i v := by
  unfold ShX
  cases i == k
  · exact h i
  · exact hS
namespace HoldC
variable {k q j : Nat} {P : Value → World → Prop} {D : Nat → Bool} {γ γ' : Nat → Value} {u u' : World} {x : Value}
theorem loc (ha : ∀ i, D i = true → γ i = γ' i) (h : HoldC k q P D γ u) : HoldC k q P D γ' u := fun hk hq => by rw [← ha k hk]; exact h hk hq
theorem start : HoldC k q P (fun _ => false) γ u := fun h => by cases h
theorem step (hP : ∀ v u u', Below u.heap.size u u' → P v u → P v u') (h : HoldC k q P D γ u) (hb : Below u.heap.size u u') (hj : j ≠ k) : HoldC k q P (setD D j) (setG γ j x) u' := by
  intro hk hq
  have hjk : ¬ k = j := fun e => hj e.symm
  have hk' : D k = true := by unfold setD at hk; simpa [hjk] using hk
  have hq' : D q = false := by unfold setD at hq; simp at hq; exact hq.2
  unfold setG
  rw [if_neg hjk]
  exact hP _ _ _ hb (h hk' hq')
theorem put (hx : P x u') : HoldC k q P (setD D k) (setG γ k x) u' := fun _ _ => by unfold setG; rw [if_pos rfl]; exact hx
theorem used : HoldC k q P (setD D q) γ' u' := fun _ h => by unfold setD at h; simp at h
theorem over (hq : D q = true) : HoldC k q P (setD D j) γ' u' := fun _ h => by unfold setD at h; simp [hq] at h
end HoldC
end Go.Proofs.YteopplldbcgjjaaGreatDoor.Mx
namespace Go.Proofs.YteopplldbcgjjaaGreatDoor.Mx
open Go.ChangeShapes Go.WideShapes Go.ChangeAt Go.RowKit
set_option linter.unusedVariables false
def PlanX (key : Int) (l : List Int) (v : Value) (u : World) : Prop := ∃ G, v = .agg #[.int .i64 key, .slice G l.length l.length] ∧ Ints u .i64 u.heap.size G l
theorem PlanX.below (key : Int) (l : List Int) : ∀ v u u', Below u.heap.size u u' → PlanX key l v u → PlanX key l v u' := fun v u u' hb ⟨G, e, hI⟩ => ⟨G, e, (hI.below hb (Nat.le_refl _)).more hb.size⟩
set_option maxRecDepth 20000 in
set_option maxHeartbeats 16000000 in
theorem touchedLaw_calls (a0 a1 a2 a3 : Addr) (key x ct cv value : Int) (A : Option Addr) (l : List Int) (cap : Nat) (t0 t1 t2 t3 t4 t5 t6 : Int) (t7 : Bool) (w : World) (hn : l.length ≤ maxLen) (hA : Ints w .i64 w.heap.size A l) (hx : I64 x) (hct : I64 ct) (hcv : I64 cv) (he : Errs w a0 a1 a2 a3) :
    Calls Tryz.prog 5 #[.agg #[.int .i64 key, .slice A l.length cap], .agg #[.int .i64 t0, .int .i64 t1, .int .i64 t2, .int .i64 t3, .int .i64 t4, .int .i64 t5, .int .i64 t6, .bool t7], .int .i64 x, .agg #[.int .i64 ct, .int .i64 cv], .int .i64 value] w fun e w' => e = .returned (.bool true) ∧ Below w.heap.size w w' := by
  have K0 := Lib.hid (show Kept w [(w.heap.size + 1 + 1, 51, #[.int .i64 ct, .int .i64 cv]), (w.heap.size + 1, 50, #[.int .i64 t0, .int .i64 t1, .int .i64 t2, .int .i64 t3, .int .i64 t4, .int .i64 t5, .int .i64 t6, .bool t7]), (w.heap.size, 49, #[.int .i64 key, .slice A l.length cap])] _ from ((((Kept.refl w).put1 _ _ #[.int .i64 key, .slice A l.length cap] rfl).put1 _ _ #[.int .i64 t0, .int .i64 t1, .int .i64 t2, .int .i64 t3, .int .i64 t4, .int .i64 t5, .int .i64 t6, .bool t7] (by simp)).put1 _ _ #[.int .i64 ct, .int .i64 cv] (by simp)))
  by_cases hs : 1048576 < l.length
  · have S := Lib.hid (fun w => szPlan_no key A l.length cap w hn hs)
    clear hA hs hx hct hcv he
    go_enter Tryz.func5, Tryz.ntmps5
    go_upto_region 1 with fail
    have k0 := K0.out
    clear K0
    generalize World.alloc (World.alloc _ _) _ = w0 at k0 ⊢
    obtain ⟨kc0, kf0, kc1, kf1, kc2, kf2, -⟩ := k0.rd
    go_wp2_with fail
    refine (S.out _).mono ?_; rintro e w1 ⟨rfl, b1⟩
    have B1 := Lib.hid (k0.below b1).1
    clear b1 k0
    go_wp2_with fail
    go_ret
    exact ⟨rfl, B1.out⟩
  · have hs' : l.length ≤ 1048576 := by omega
    have S := Lib.hid (fun w => szPlan_yes key A l.length cap w hs')
    have T := Lib.hid (fun (u : World) (hb : Below w.heap.size w u) => toPlan_calls key A l cap u hs' ((hA.below hb (Nat.le_refl _)).more hb.size))
    have U := Lib.hid (fun u => toTrust_calls t0 t1 t2 t3 t4 t5 t6 t7 u)
    have V := Lib.hid (fun u => toCell_calls ct cv u)
    have DS := Lib.hid (fun G u hG => specTouched_calls key x ct cv value G l l.length t0 t1 t2 t3 t4 t5 t6 t7 u hn (Nat.le_refl _) hG hx)
    have CI := Lib.hid (fun G (u : World) (hb : Below w.heap.size w u) hG => implTouched_calls a0 a1 a2 a3 key x ct cv value G l l.length t0 t1 t2 t3 t4 t5 t6 t7 u hs' (Nat.le_refl _) hG hx hct hcv (he.below hb))
    have Q := Lib.hid (fun A C w hA hC => eqPlan_same key A C l l.length l.length w hs' hA hC)
    have E1 := Lib.hid (fun R w => eqTrust_same (Tru.clock R) R.epoch R.cursor R.read R.written R.nread R.nwritten R.failed w)
    have E2 := Lib.hid (fun a b w => eqCel_same a b w)
    have hPX := PlanX.below key l
    have HPX := Lib.hid hPX
    clear hPX
    have hg : ¬ (1048576 : Int) - l.length < 0 := by omega
    generalize touched key l ⟨t0, t1, t2, t3, t4, t5, t6, t7⟩ x ct cv value = R at DS CI
    clear hA hs hs' hx hct hcv he hn
    go_enter Tryz.func5, Tryz.ntmps5
    go_upto_region 1 with fail
    have k0 := K0.out
    clear K0
    generalize World.alloc (World.alloc _ _) _ = w0 at k0 ⊢
    obtain ⟨kc0, kf0, kc1, kf1, kc2, kf2, -⟩ := k0.rd
    go_wp2_with fail
    refine (S.out _).mono ?_; rintro e w1 ⟨rfl, b1⟩
    have k1 := k0.below b1
    clear b1 k0 S kc0 kf0 kc1 kf1 kc2 kf2
    obtain ⟨kc0, kf0, kc1, kf1, kc2, kf2, -⟩ := k1.rd
    go_upto_region 5 with fail
    have hPX := HPX.out
    refine wp_region_free [false, true, false, true, false, false, true, false, true, false, false, false, false, false, true, true, true, true, false, false] (ShX 1 (fun v => ∃ G, v = .agg #[.int .i64 key, .slice G l.length l.length]) (ShM [(3, .agg #[.int .i64 t0, .int .i64 t1, .int .i64 t2, .int .i64 t3, .int .i64 t4, .int .i64 t5, .int .i64 t6, .bool t7]), (6, .agg #[.int .i64 ct, .int .i64 cv]), (8, .tuple #[.agg #[.int .i64 R.1.clock, .int .i64 R.1.epoch, .int .i64 R.1.cursor, .int .i64 R.1.read, .int .i64 R.1.written, .int .i64 R.1.nread, .int .i64 R.1.nwritten, .bool R.1.failed], .agg #[.int .i64 R.2.1.1, .int .i64 R.2.1.2], .int .i64 R.2.2.1, .int .i64 R.2.2.2])] [14, 15])) (AndC (MadeC w1 (w1.heap.size) [] [] [(14, 16, 28, #[.int .i64 R.1.clock, .int .i64 R.1.epoch, .int .i64 R.1.cursor, .int .i64 R.1.read, .int .i64 R.1.written, .int .i64 R.1.nread, .int .i64 R.1.nwritten, .bool R.1.failed]), (15, 17, 30, #[.int .i64 R.2.1.1, .int .i64 R.2.1.2])]) (HoldC 1 8 (PlanX key l))) (by kernel_rfl) (by kernel_rfl) (fun γ => by kernel_rfl) (fun D γ γ' w ha h => ⟨h.1.loc ha, h.2.loc ha⟩) (ShX.inh ?inhx (ShM.inh _ _)) (fun γ => ⟨MadeC.start (ResC.start (Kept.refl _) (fun x hx => by cases hx)) (Nat.le_refl _) (Nat.le_refl _) (fun x hx => by cases hx) (fun x hx => by cases hx), HoldC.start⟩) (fun γ hγ => ?_)
    case inhx => exact ⟨_, none, rfl⟩
    have g3 : γ 3 = .agg #[.int .i64 t0, .int .i64 t1, .int .i64 t2, .int .i64 t3, .int .i64 t4, .int .i64 t5, .int .i64 t6, .bool t7] := hγ 3 rfl
    have g6 : γ 6 = .agg #[.int .i64 ct, .int .i64 cv] := hγ 6 rfl
    have g8 : γ 8 = .tuple #[.agg #[.int .i64 R.1.clock, .int .i64 R.1.epoch, .int .i64 R.1.cursor, .int .i64 R.1.read, .int .i64 R.1.written, .int .i64 R.1.nread, .int .i64 R.1.nwritten, .bool R.1.failed], .agg #[.int .i64 R.2.1.1, .int .i64 R.2.1.2], .int .i64 R.2.2.1, .int .i64 R.2.2.2] := hγ 8 rfl
    obtain ⟨G, g1⟩ : ∃ G, γ 1 = .agg #[.int .i64 key, .slice G l.length l.length] := hγ 1 rfl
    have g16 : γ 16 = undef := hγ 16 rfl
    obtain ⟨gT, g14⟩ : ∃ g : Nat, γ 14 = .pointer (some ⟨g, 0, none⟩) := hγ 14 rfl
    have g17 : γ 17 = undef := hγ 17 rfl
    obtain ⟨gC, g15⟩ : ∃ g : Nat, γ 15 = .pointer (some ⟨g, 0, none⟩) := hγ 15 rfl
    clear kc0 kf0 kc1 kf1 kc2 kf2
    apply Exists.intro
    refine ⟨fun D => ?_, ?_, ?_⟩
    · simp only [hushL, cond_true, cond_false, Nat.reduceAdd, g3, g6, g8, g1, g16, g14, g17, g15]
      iterate 20 (first
        | go_big_quiet_skip
        | (go_big_quiet_want
           go_big_quiet_op
           first
             | go_big_quiet_on
             | (apply Exists.intro
                refine ⟨fun u hu => ?_, ?_⟩
                · first
                    | with_reducible rfl
                    | (have hk9 := k1.below hu.1.1.1.1; obtain ⟨kc0, kf0, kc1, kf1, kc2, kf2, -⟩ := hk9.rd; go_simp; first | done | with_reducible rfl)
                go_big_quiet_on)))
      exact wpQuiet_nil rfl
    · simp only [freeOk, Nat.reduceAdd]
      refine ⟨fun D u hD hd hu => ?_, fun D u hD hd hu => ?_, fun D u hD hd hu => ?_, fun D u hD hd hu => ?_, fun D u hD hd hu => ?_, fun D u hD hd hu => ?_, fun D u hD hd hu => ?_, fun D u hD hd hu => ?_, trivial⟩
      · have hb := hu.1.1.1.1
        exact steps_call (((T.out u (k1.1.trans (hb.mono k1.1.size))).mono (fun e w' ⟨C, he, hC, hb⟩ => (⟨_, he, ⟨C, rfl⟩, ⟨C, rfl, hC⟩, hb⟩ : ∃ v, e = Ending.returned v ∧ (∃ G, v = Value.agg #[.int .i64 key, .slice G l.length l.length]) ∧ PlanX key l v w' ∧ Below u.heap.size u w'))).mono fun e w' ⟨v, he, hs, hp, hb⟩ => ⟨v, he, hs, hu.1.below hb 1 _ (by simp), HoldC.put hp⟩) rfl rfl rfl rfl (by kernel_rfl)
      · have hb := hu.1.1.1.1
        exact steps_call ((U.out u).mono fun e w' ⟨he, hb⟩ => ⟨_, he, rfl, hu.1.below hb 3 _ (by simp), hu.2.step hPX hb (Nat.ne_of_beq_eq_false rfl)⟩) rfl rfl rfl rfl (by kernel_rfl)
      · have hb := hu.1.1.1.1
        exact steps_call ((V.out u).mono fun e w' ⟨he, hb⟩ => ⟨_, he, rfl, hu.1.below hb 6 _ (by simp), hu.2.step hPX hb (Nat.ne_of_beq_eq_false rfl)⟩) rfl rfl rfl rfl (by kernel_rfl)
      · have hb := hu.1.1.1.1
        have hx := hu.2 (hd { on := 1, ground := Ground.data } (by simp) rfl rfl) hD
        obtain ⟨G9, e9, hI⟩ := hx
        rw [g1] at e9
        obtain rfl : G = G9 := by simpa using e9
        exact steps_call ((DS.out G u hI).mono fun e w' ⟨he, hb⟩ => ⟨_, he, rfl, hu.1.below hb 8 _ (by simp), HoldC.used⟩) rfl rfl rfl rfl (by kernel_rfl)
      · exact steps_alloc (cs := #[.int .i64 0, .int .i64 0, .int .i64 0, .int .i64 0, .int .i64 0, .int .i64 0, .int .i64 0, .bool false]) rfl (by kernel_rfl) ⟨⟨_, rfl⟩, hu.1.made (j := 16) (t := 28) (V := #[.int .i64 R.1.clock, .int .i64 R.1.epoch, .int .i64 R.1.cursor, .int .i64 R.1.read, .int .i64 R.1.written, .int .i64 R.1.nread, .int .i64 R.1.nwritten, .bool R.1.failed]) (by simp) (by simp) (by simp) hD (by decide) rfl, hu.2.step hPX ((Below.refl _ _).alloc (Nat.le_refl _) _) (Nat.ne_of_beq_eq_false rfl)⟩
      · exact steps_alloc (cs := #[.int .i64 0, .int .i64 0]) rfl (by kernel_rfl) ⟨⟨_, rfl⟩, hu.1.made (j := 17) (t := 30) (V := #[.int .i64 R.2.1.1, .int .i64 R.2.1.2]) (by simp) (by simp) (by simp) hD (by decide) rfl, hu.2.step hPX ((Below.refl _ _).alloc (Nat.le_refl _) _) (Nat.ne_of_beq_eq_false rfl)⟩
      · have dk := hd { on := 14, ground := Ground.data } (by simp) rfl rfl
        have dq := hd { on := 8, ground := Ground.phase } (by simp) rfl rfl
        obtain ⟨g0, e1, z, hz, hzs⟩ := hu.1.box (k := 14) (j := 16) (t := 28) (V := #[.int .i64 R.1.clock, .int .i64 R.1.epoch, .int .i64 R.1.cursor, .int .i64 R.1.read, .int .i64 R.1.written, .int .i64 R.1.nread, .int .i64 R.1.nwritten, .bool R.1.failed]) (by simp) dk
        obtain rfl : gT = g0 := by rw [g14] at e1; simpa using e1
        exact steps_store hz rfl rfl rfl (by kernel_rfl) hzs (by simp [Value.oneCell']) (fun w' hc hg => ⟨rfl, hu.1.filled (k := 14) (t := 28) (V := #[.int .i64 R.1.clock, .int .i64 R.1.epoch, .int .i64 R.1.cursor, .int .i64 R.1.read, .int .i64 R.1.written, .int .i64 R.1.nread, .int .i64 R.1.nwritten, .bool R.1.failed]) (by simp) dk (by simp) (by simp) (by decide) e1 hg hc _, HoldC.over dq⟩)
      · have dk := hd { on := 15, ground := Ground.data } (by simp) rfl rfl
        have dq := hd { on := 8, ground := Ground.phase } (by simp) rfl rfl
        obtain ⟨g0, e1, z, hz, hzs⟩ := hu.1.box (k := 15) (j := 17) (t := 30) (V := #[.int .i64 R.2.1.1, .int .i64 R.2.1.2]) (by simp) dk
        obtain rfl : gC = g0 := by rw [g15] at e1; simpa using e1
        exact steps_store hz rfl rfl rfl (by kernel_rfl) hzs (by simp [Value.oneCell']) (fun w' hc hg => ⟨rfl, hu.1.filled (k := 15) (t := 30) (V := #[.int .i64 R.2.1.1, .int .i64 R.2.1.2]) (by simp) dk (by simp) (by simp) (by decide) e1 hg hc _, HoldC.over dq⟩)
    · intro D uf hD hu
      have hb3 := hu.1.1.1.1
      have hf := k1.below hb3
      obtain ⟨g0, e1, hge14, hgc14⟩ := hu.1.doneM (k := 14) (j := 16) (t := 28) (V := #[.int .i64 R.1.clock, .int .i64 R.1.epoch, .int .i64 R.1.cursor, .int .i64 R.1.read, .int .i64 R.1.written, .int .i64 R.1.nread, .int .i64 R.1.nwritten, .bool R.1.failed]) (by simp) (hD 14 (by simp) rfl) (hD 16 (by simp) rfl)
      obtain rfl : gT = g0 := by rw [g14] at e1; simpa using e1
      clear e1
      have hfz1 := hf.more (Nat.le_trans k1.1.size hge14) hgc14
      obtain ⟨g0, e1, hge15, hgc15⟩ := hu.1.doneM (k := 15) (j := 17) (t := 30) (V := #[.int .i64 R.2.1.1, .int .i64 R.2.1.2]) (by simp) (hD 15 (by simp) rfl) (hD 17 (by simp) rfl)
      obtain rfl : gC = g0 := by rw [g15] at e1; simpa using e1
      clear e1
      have hfz2 := hfz1.more (Nat.le_trans k1.1.size hge15) hgc15
      have hne14_15 : gT ≠ gC := fun e => hu.1.2.2.2.2.2.2.1 _ (show (14, 16, 28, #[.int .i64 R.1.clock, .int .i64 R.1.epoch, .int .i64 R.1.cursor, .int .i64 R.1.read, .int .i64 R.1.written, .int .i64 R.1.nread, .int .i64 R.1.nwritten, .bool R.1.failed]) ∈ ([(14, 16, 28, #[.int .i64 R.1.clock, .int .i64 R.1.epoch, .int .i64 R.1.cursor, .int .i64 R.1.read, .int .i64 R.1.written, .int .i64 R.1.nread, .int .i64 R.1.nwritten, .bool R.1.failed]), (15, 17, 30, #[.int .i64 R.2.1.1, .int .i64 R.2.1.2])] : List Made) by simp) _ (show (15, 17, 30, #[.int .i64 R.2.1.1, .int .i64 R.2.1.2]) ∈ ([(14, 16, 28, #[.int .i64 R.1.clock, .int .i64 R.1.epoch, .int .i64 R.1.cursor, .int .i64 R.1.read, .int .i64 R.1.written, .int .i64 R.1.nread, .int .i64 R.1.nwritten, .bool R.1.failed]), (15, 17, 30, #[.int .i64 R.2.1.1, .int .i64 R.2.1.2])] : List Made) by simp) (Nat.ne_of_beq_eq_false rfl) (hD 14 (by simp) rfl) (hD 15 (by simp) rfl) (by rw [g14, g15, e])
      clear hu hD
      obtain ⟨kc0, kf0, kc1, kf1, kc2, kf2, kc3, kf3, kc4, kf4, -⟩ := hfz2.rd
      clear hPX
      go_wp2_with fail
      refine (T.out _ hfz2.1).mono ?_; rintro e w6 ⟨G6, rfl, hG6, b6⟩
      have k6 := hfz2.below b6
      clear hfz2 b6 kc0 kf0 kc1 kf1 kc2 kf2 kc3 kf3 kc4 kf4
      have hG7 := hG6.boxed (.cells #[.int .i64 key, .slice G6 l.length l.length] 26)
      have lt6 := k6.apart
      have l6_0 := k6.lt (x := (gC, 30, #[.int .i64 R.2.1.1, .int .i64 R.2.1.2])) (by simp)
      have l6_1 := k6.lt (x := (gT, 28, #[.int .i64 R.1.clock, .int .i64 R.1.epoch, .int .i64 R.1.cursor, .int .i64 R.1.read, .int .i64 R.1.written, .int .i64 R.1.nread, .int .i64 R.1.nwritten, .bool R.1.failed])) (by simp)
      have l6_2 := k6.lt (x := (w.heap.size + 1 + 1, 51, #[.int .i64 ct, .int .i64 cv])) (by simp)
      have l6_3 := k6.lt (x := (w.heap.size + 1, 50, #[.int .i64 t0, .int .i64 t1, .int .i64 t2, .int .i64 t3, .int .i64 t4, .int .i64 t5, .int .i64 t6, .bool t7])) (by simp)
      have l6_4 := k6.lt (x := (w.heap.size, 49, #[.int .i64 key, .slice A l.length cap])) (by simp)
      have k7 := k6.put1 w6.heap.size 26 #[.int .i64 key, .slice G6 l.length l.length] rfl
      clear k6 hG6 lt6
      go_upto_region 7 with fail
      generalize hw7 : World.alloc _ _ = w7 at k7 hG7 ⊢
      clear hw7
      obtain ⟨kc0, kf0, kc1, kf1, kc2, kf2, kc3, kf3, kc4, kf4, kc5, kf5, -⟩ := k7.rd
      refine wp_region_free [false, false, true, false, false, true, false, true, false, false, false, false, false, true, true, true, true, false, false] (ShM [(2, .agg #[.int .i64 t0, .int .i64 t1, .int .i64 t2, .int .i64 t3, .int .i64 t4, .int .i64 t5, .int .i64 t6, .bool t7]), (5, .agg #[.int .i64 ct, .int .i64 cv]), (7, .tuple #[.agg #[.int .i64 R.1.clock, .int .i64 R.1.epoch, .int .i64 R.1.cursor, .int .i64 R.1.read, .int .i64 R.1.written, .int .i64 R.1.nread, .int .i64 R.1.nwritten, .bool R.1.failed], .agg #[.int .i64 R.2.1.1, .int .i64 R.2.1.2], .int .i64 R.2.2.1, .int .i64 R.2.2.2])] [13, 14]) (fun D γ u => MadeC w7 (w7.heap.size) [] [] [(13, 15, 28, #[.int .i64 R.1.clock, .int .i64 R.1.epoch, .int .i64 R.1.cursor, .int .i64 R.1.read, .int .i64 R.1.written, .int .i64 R.1.nread, .int .i64 R.1.nwritten, .bool R.1.failed]), (14, 16, 30, #[.int .i64 R.2.1.1, .int .i64 R.2.1.2])] D γ u) (by kernel_rfl) (by kernel_rfl) (fun γ => by kernel_rfl) (fun D γ γ' w ha h => h.loc ha) (ShM.inh _ _) (fun γ => MadeC.start (ResC.start (Kept.refl _) (fun x hx => by cases hx)) (Nat.le_refl _) (Nat.le_refl _) (fun x hx => by cases hx) (fun x hx => by cases hx)) (fun γ hγ => ?_)
      have g2 : γ 2 = .agg #[.int .i64 t0, .int .i64 t1, .int .i64 t2, .int .i64 t3, .int .i64 t4, .int .i64 t5, .int .i64 t6, .bool t7] := hγ 2 rfl
      have g5 : γ 5 = .agg #[.int .i64 ct, .int .i64 cv] := hγ 5 rfl
      have g7 : γ 7 = .tuple #[.agg #[.int .i64 R.1.clock, .int .i64 R.1.epoch, .int .i64 R.1.cursor, .int .i64 R.1.read, .int .i64 R.1.written, .int .i64 R.1.nread, .int .i64 R.1.nwritten, .bool R.1.failed], .agg #[.int .i64 R.2.1.1, .int .i64 R.2.1.2], .int .i64 R.2.2.1, .int .i64 R.2.2.2] := hγ 7 rfl
      have g15 : γ 15 = undef := hγ 15 rfl
      obtain ⟨fT, g13⟩ : ∃ g : Nat, γ 13 = .pointer (some ⟨g, 0, none⟩) := hγ 13 rfl
      have g16 : γ 16 = undef := hγ 16 rfl
      obtain ⟨fC, g14⟩ : ∃ g : Nat, γ 14 = .pointer (some ⟨g, 0, none⟩) := hγ 14 rfl
      clear kc0 kf0 kc1 kf1 kc2 kf2 kc3 kf3 kc4 kf4 kc5 kf5
      apply Exists.intro
      refine ⟨fun D => ?_, ?_, ?_⟩
      · simp only [hushL, cond_true, cond_false, Nat.reduceAdd, g2, g5, g7, g15, g13, g16, g14]
        iterate 19 (first
          | go_big_quiet_skip
          | (go_big_quiet_want
             go_big_quiet_op
             first
               | go_big_quiet_on
               | (apply Exists.intro
                  refine ⟨fun u hu => ?_, ?_⟩
                  · first
                      | with_reducible rfl
                      | (have hk9 := k7.below hu.1.1.1; obtain ⟨kc0, kf0, kc1, kf1, kc2, kf2, kc3, kf3, kc4, kf4, kc5, kf5, -⟩ := hk9.rd; go_simp; first | done | with_reducible rfl)
                  go_big_quiet_on)))
        exact wpQuiet_nil rfl
      · simp only [freeOk, Nat.reduceAdd]
        refine ⟨fun D u hD hd hu => ?_, fun D u hD hd hu => ?_, fun D u hD hd hu => ?_, fun D u hD hd hu => ?_, fun D u hD hd hu => ?_, fun D u hD hd hu => ?_, fun D u hD hd hu => ?_, trivial⟩
        · have hb := hu.1.1.1
          exact steps_call ((U.out u).mono fun e w' ⟨he, hb⟩ => ⟨_, he, rfl, hu.below hb 2 _ (by simp)⟩) rfl rfl rfl rfl (by kernel_rfl)
        · have hb := hu.1.1.1
          exact steps_call ((V.out u).mono fun e w' ⟨he, hb⟩ => ⟨_, he, rfl, hu.below hb 5 _ (by simp)⟩) rfl rfl rfl rfl (by kernel_rfl)
        · have hb := hu.1.1.1
          exact steps_call ((CI.out G6 u (k7.1.trans (hb.mono k7.1.size)) ((hG7.below hb (Nat.le_refl _)).more hb.size)).mono fun e w' ⟨he, hb⟩ => ⟨_, he, rfl, hu.below hb 7 _ (by simp)⟩) rfl rfl rfl rfl (by kernel_rfl)
        · exact steps_alloc (cs := #[.int .i64 0, .int .i64 0, .int .i64 0, .int .i64 0, .int .i64 0, .int .i64 0, .int .i64 0, .bool false]) rfl (by kernel_rfl) ⟨⟨_, rfl⟩, hu.made (j := 15) (t := 28) (V := #[.int .i64 R.1.clock, .int .i64 R.1.epoch, .int .i64 R.1.cursor, .int .i64 R.1.read, .int .i64 R.1.written, .int .i64 R.1.nread, .int .i64 R.1.nwritten, .bool R.1.failed]) (by simp) (by simp) (by simp) hD (by decide) rfl⟩
        · exact steps_alloc (cs := #[.int .i64 0, .int .i64 0]) rfl (by kernel_rfl) ⟨⟨_, rfl⟩, hu.made (j := 16) (t := 30) (V := #[.int .i64 R.2.1.1, .int .i64 R.2.1.2]) (by simp) (by simp) (by simp) hD (by decide) rfl⟩
        · have dk := hd { on := 13, ground := Ground.data } (by simp) rfl rfl
          obtain ⟨g0, e1, z, hz, hzs⟩ := hu.box (k := 13) (j := 15) (t := 28) (V := #[.int .i64 R.1.clock, .int .i64 R.1.epoch, .int .i64 R.1.cursor, .int .i64 R.1.read, .int .i64 R.1.written, .int .i64 R.1.nread, .int .i64 R.1.nwritten, .bool R.1.failed]) (by simp) dk
          obtain rfl : fT = g0 := by rw [g13] at e1; simpa using e1
          exact steps_store hz rfl rfl rfl (by kernel_rfl) hzs (by simp [Value.oneCell']) (fun w' hc hg => ⟨rfl, hu.filled (k := 13) (t := 28) (V := #[.int .i64 R.1.clock, .int .i64 R.1.epoch, .int .i64 R.1.cursor, .int .i64 R.1.read, .int .i64 R.1.written, .int .i64 R.1.nread, .int .i64 R.1.nwritten, .bool R.1.failed]) (by simp) dk (by simp) (by simp) (by decide) e1 hg hc _⟩)
        · have dk := hd { on := 14, ground := Ground.data } (by simp) rfl rfl
          obtain ⟨g0, e1, z, hz, hzs⟩ := hu.box (k := 14) (j := 16) (t := 30) (V := #[.int .i64 R.2.1.1, .int .i64 R.2.1.2]) (by simp) dk
          obtain rfl : fC = g0 := by rw [g14] at e1; simpa using e1
          exact steps_store hz rfl rfl rfl (by kernel_rfl) hzs (by simp [Value.oneCell']) (fun w' hc hg => ⟨rfl, hu.filled (k := 14) (t := 30) (V := #[.int .i64 R.2.1.1, .int .i64 R.2.1.2]) (by simp) dk (by simp) (by simp) (by decide) e1 hg hc _⟩)
      · intro D uf hD hu
        have hb3 := hu.1.1.1
        have hf := k7.below hb3
        obtain ⟨g0, e1, hge13, hgc13⟩ := hu.doneM (k := 13) (j := 15) (t := 28) (V := #[.int .i64 R.1.clock, .int .i64 R.1.epoch, .int .i64 R.1.cursor, .int .i64 R.1.read, .int .i64 R.1.written, .int .i64 R.1.nread, .int .i64 R.1.nwritten, .bool R.1.failed]) (by simp) (hD 13 (by simp) rfl) (hD 15 (by simp) rfl)
        obtain rfl : fT = g0 := by rw [g13] at e1; simpa using e1
        clear e1
        have hfz3 := hf.more (Nat.le_trans k7.1.size hge13) hgc13
        obtain ⟨g0, e1, hge14, hgc14⟩ := hu.doneM (k := 14) (j := 16) (t := 30) (V := #[.int .i64 R.2.1.1, .int .i64 R.2.1.2]) (by simp) (hD 14 (by simp) rfl) (hD 16 (by simp) rfl)
        obtain rfl : fC = g0 := by rw [g14] at e1; simpa using e1
        clear e1
        have hfz4 := hfz3.more (Nat.le_trans k7.1.size hge14) hgc14
        have hne13_14 : fT ≠ fC := fun e => hu.2.2.2.2.2.2.1 _ (show (13, 15, 28, #[.int .i64 R.1.clock, .int .i64 R.1.epoch, .int .i64 R.1.cursor, .int .i64 R.1.read, .int .i64 R.1.written, .int .i64 R.1.nread, .int .i64 R.1.nwritten, .bool R.1.failed]) ∈ ([(13, 15, 28, #[.int .i64 R.1.clock, .int .i64 R.1.epoch, .int .i64 R.1.cursor, .int .i64 R.1.read, .int .i64 R.1.written, .int .i64 R.1.nread, .int .i64 R.1.nwritten, .bool R.1.failed]), (14, 16, 30, #[.int .i64 R.2.1.1, .int .i64 R.2.1.2])] : List Made) by simp) _ (show (14, 16, 30, #[.int .i64 R.2.1.1, .int .i64 R.2.1.2]) ∈ ([(13, 15, 28, #[.int .i64 R.1.clock, .int .i64 R.1.epoch, .int .i64 R.1.cursor, .int .i64 R.1.read, .int .i64 R.1.written, .int .i64 R.1.nread, .int .i64 R.1.nwritten, .bool R.1.failed]), (14, 16, 30, #[.int .i64 R.2.1.1, .int .i64 R.2.1.2])] : List Made) by simp) (Nat.ne_of_beq_eq_false rfl) (hD 13 (by simp) rfl) (hD 14 (by simp) rfl) (by rw [g13, g14, e])
        clear hu hD
        obtain ⟨kc0, kf0, kc1, kf1, kc2, kf2, kc3, kf3, kc4, kf4, kc5, kf5, kc6, kf6, kc7, kf7, -⟩ := hfz4.rd
        have hG8 := (hG7.below hb3 (Nat.le_refl _)).more hb3.size
        have HG8 := Lib.hid hG8
        clear hG8 hb3
        have n2 : (R.2.2.1 != R.2.2.1) = false := by simp
        have n3 : (R.2.2.2 != R.2.2.2) = false := by simp
        go_wp2_with fail
        refine (E1.out R.1 _).mono ?_; rintro e w9 ⟨rfl, b9⟩
        have k9 := hfz4.below b9
        have HG9 := Lib.hid ((HG8.out.below b9 (Nat.le_refl _)).more b9.size)
        clear hfz4 b9 HG8 kc0 kf0 kc1 kf1 kc2 kf2 kc3 kf3 kc4 kf4 kc5 kf5 kc6 kf6 kc7 kf7
        obtain ⟨kc0, kf0, kc1, kf1, kc2, kf2, kc3, kf3, kc4, kf4, kc5, kf5, kc6, kf6, kc7, kf7, -⟩ := k9.rd
        go_wp2_with fail
        refine (E2.out _ _ _).mono ?_; rintro e w10 ⟨rfl, b10⟩
        have k10 := k9.below b10
        have HG10 := Lib.hid ((HG9.out.below b10 (Nat.le_refl _)).more b10.size)
        clear k9 b10 HG9 kc0 kf0 kc1 kf1 kc2 kf2 kc3 kf3 kc4 kf4 kc5 kf5 kc6 kf6 kc7 kf7
        have k11 := k10.drew
        clear k10
        have TT := Lib.hid (fun (u : World) (h : Kept w [(fC, 30, #[.int .i64 R.2.1.1, .int .i64 R.2.1.2]), (fT, 28, #[.int .i64 R.1.clock, .int .i64 R.1.epoch, .int .i64 R.1.cursor, .int .i64 R.1.read, .int .i64 R.1.written, .int .i64 R.1.nread, .int .i64 R.1.nwritten, .bool R.1.failed]), (w6.heap.size, 26, #[.int .i64 key, .slice G6 l.length l.length]), (gC, 30, #[.int .i64 R.2.1.1, .int .i64 R.2.1.2]), (gT, 28, #[.int .i64 R.1.clock, .int .i64 R.1.epoch, .int .i64 R.1.cursor, .int .i64 R.1.read, .int .i64 R.1.written, .int .i64 R.1.nread, .int .i64 R.1.nwritten, .bool R.1.failed]), (w.heap.size + 1 + 1, 51, #[.int .i64 ct, .int .i64 cv]), (w.heap.size + 1, 50, #[.int .i64 t0, .int .i64 t1, .int .i64 t2, .int .i64 t3, .int .i64 t4, .int .i64 t5, .int .i64 t6, .bool t7]), (w.heap.size, 49, #[.int .i64 key, .slice A l.length cap])] u) (hG : Ints u .i64 u.heap.size G6 l) => (T.out u h.1).mono (fun e w' ⟨C, he, hC, hb⟩ => (⟨C, he, hC, (hG.below hb (Nat.le_refl _)).more hb.size, (h.below hb).cell (p := w6.heap.size) (t := 26) (cs := #[.int .i64 key, .slice G6 l.length l.length]) (by simp) 0, (h.below hb).cell (p := w6.heap.size) (t := 26) (cs := #[.int .i64 key, .slice G6 l.length l.length]) (by simp) 1, (h.below hb).1⟩ : ∃ C, e = Ending.returned (.agg #[.int .i64 key, .slice C l.length l.length]) ∧ Ints w' .i64 w'.heap.size C l ∧ Ints w' .i64 w'.heap.size G6 l ∧ w'.cell? ⟨w6.heap.size, 0, none⟩ = some (Value.int .i64 key) ∧ w'.cell? ⟨w6.heap.size, 1, none⟩ = some (Value.slice G6 l.length l.length) ∧ Below w.heap.size w w')))
        have K11 := Lib.hid k11
        obtain ⟨kc0, kf0, kc1, kf1, kc2, kf2, kc3, kf3, kc4, kf4, kc5, kf5, kc6, kf6, kc7, kf7, -⟩ := k11.rd
        clear k11 T
        go_upto_region 10 with fail
        go_region_with (first
          | (go_at_call 21; refine (TT.out _ K11.out HG10.out).mono ?_; rintro e wz ⟨C, rfl, hC, hG, q0, q1, bz⟩; have HC := Lib.hid hC; have HG := Lib.hid hG; have BZ := Lib.hid bz; clear hC hG bz)
          | (go_at_call 26; refine (Q.out _ _ _ HG.out HC.out).mono ?_; rintro e wy ⟨rfl, by_⟩))
        all_goals
          have BY := Lib.hid (BZ.out.trans (by_.mono BZ.out.size))
          clear by_
          go_wp2_with fail
          go_ret
          exact ⟨rfl, BY.out⟩
end Go.Proofs.YteopplldbcgjjaaGreatDoor.Mx
namespace Go.Proofs.YteopplldbcgjjaaGreatDoor.Mx
open Go.ChangeShapes Go.WideShapes Go.RowKit
set_option linter.unusedVariables false
def Laid5 : List (String × DataW Unit) := [("errors.errorType", Rows.laid_errors_errorType), ("loop.example/g00775/impl.errBad", Rows.laid_loop_example_g00775_impl_errBad), ("loop.example/g00775/impl.errFailed", Rows.laid_loop_example_g00775_impl_errFailed), ("loop.example/g00775/impl.errSpent", Rows.laid_loop_example_g00775_impl_errSpent), ("loop.example/g00775/impl.errCaught", Rows.laid_loop_example_g00775_impl_errCaught)]
theorem xStar : "*" ++ "errors.errorString" = "*errors.errorString" := by decide
theorem xRowES (u : TypeId) (h : Tryz.prog.typeName? 3 u = some "*errors.errorString") : u = 212 :=
  typeName_ptr_named (nm := "errors.errorString") (by rw [xStar]; kernel_rfl) (by kernel_rfl) (by decide) u (by rw [xStar]; exact h)
theorem xCellsE : Tryz.prog.cellsOf 234 = 1 := by kernel_rfl
theorem xCellsS : Tryz.prog.cellsOf 9 = 1 := by kernel_rfl
theorem xG0 : Tryz.prog.globalNamed "loop.example/g00775/impl.errBad" = some 3 := by kernel_rfl
theorem xT0 : (Tryz.prog.globals[3]?).map (·.type) = some 69 := by kernel_rfl
theorem xG1 : Tryz.prog.globalNamed "loop.example/g00775/impl.errFailed" = some 0 := by kernel_rfl
theorem xT1 : (Tryz.prog.globals[0]?).map (·.type) = some 69 := by kernel_rfl
theorem xG2 : Tryz.prog.globalNamed "loop.example/g00775/impl.errSpent" = some 1 := by kernel_rfl
theorem xT2 : (Tryz.prog.globals[1]?).map (·.type) = some 69 := by kernel_rfl
theorem xG3 : Tryz.prog.globalNamed "loop.example/g00775/impl.errCaught" = some 2 := by kernel_rfl
theorem xT3 : (Tryz.prog.globals[2]?).map (·.type) = some 69 := by kernel_rfl
theorem xGE : Tryz.prog.globalNamed "errors.errorType" = some 4 := by kernel_rfl
theorem xRtype : (Tryz.prog.cutTypes.find? (·.1 == "internal/reflectlite.rtype")).map (·.2) = some 178 := by kernel_rfl
theorem xOneRow : ((List.range Tryz.prog.types.size).filter fun t => Tryz.prog.rowNamed t [101, 114, 114, 111, 114]) = [69] := by kernel_rfl
theorem xHandle : typeHandle Tryz.prog 69 = .pointer (some ⟨5, 69, none⟩) := by kernel_rfl
set_option maxRecDepth 100000 in
theorem sentinel_one {W : World} {n : String} {g : Nat} {text : List UInt8} {r : List (String × DataW Unit)} {ps : List MemPlace} (hg : Tryz.prog.globalNamed n = some g) (ht : (Tryz.prog.globals[g]?).map (·.type) = some 69)
    (h : DataW.LaidVars Tryz.prog W ((n, .iface "*errors.errorString" (.ptr (.agg [.lit (.string text)]))) :: r) ps)
    (hrows : ∀ b off, MemPlace.cell b off ∈ ps → (∃ c t, W.heap[b]? = some (.cells c t (0, 0))) ∧ ∀ u v, W.cell? ⟨b, off, none⟩ = some (.iface u v) → Value.okWide Tryz.prog W .any 0 u v) :
    ∃ a q n0, W.cell? ⟨g, 0, none⟩ = some (.iface 212 (.pointer (some a))) ∧ ps = n0 ++ MemPlace.row a 1 ++ q ∧ (∃ c t, W.heap[a.block]? = some (.cells c t (0, 0))) ∧ DataW.LaidVars Tryz.prog W r q := by
  obtain ⟨g', t', cs, f, p, q, hg', ht', hv, hd, hr, rfl⟩ := h
  obtain rfl := Option.some.inj (hg.symm.trans hg')
  obtain rfl := Option.some.inj (ht.symm.trans ht')
  obtain ⟨l0⟩ := cs
  have ok0 : ∀ u v, l0 = [.iface u v] → Value.okWide Tryz.prog W .any 0 u v := fun u v e => by
    subst e
    exact (hrows g 0 (by simp [MemPlace.row])).2 u v (by simpa using World.var?_cell hg' hv 0)
  obtain ⟨a0, s0, rfl, hc0, hs0, hz0, rfl⟩ := errorString_of_trod Tryz.underlying69 xRowES Tryz.underlying212 Tryz.underlying234 rfl rfl Tryz.underlying9 xCellsE xCellsS hd ok0
  exact ⟨a0, q, _, by simpa using World.var?_cell hg' hv 0, rfl, (hrows a0.block a0.off (by simp [MemPlace.row])).1, hr⟩
set_option maxRecDepth 100000 in
theorem errs_of_laid {W : World} (h : laidMetH Tryz.prog Laid5 W) : ∃ a0 a1 a2 a3, Errs W a0 a1 a2 a3 := by
  have h' : laidMet Tryz.prog [("loop.example/g00775/impl.errBad", Rows.laid_loop_example_g00775_impl_errBad), ("loop.example/g00775/impl.errFailed", Rows.laid_loop_example_g00775_impl_errFailed), ("loop.example/g00775/impl.errSpent", Rows.laid_loop_example_g00775_impl_errSpent), ("loop.example/g00775/impl.errCaught", Rows.laid_loop_example_g00775_impl_errCaught)] W ∧ handlesMet Tryz.prog [("errors.errorType", Rows.laid_errors_errorType)] W := h
  obtain ⟨⟨ps, hv, hnd, hrows⟩, hh⟩ := h'
  obtain ⟨a0, q0, n0, c0, rfl, r0, v0⟩ := sentinel_one xG0 xT0 hv hrows
  obtain ⟨a1, q1, n1, c1, rfl, r1, v1⟩ := sentinel_one xG1 xT1 v0 (fun b off hm => hrows b off (List.mem_append_right _ hm))
  obtain ⟨a2, q2, n2, c2, rfl, r2, v2⟩ := sentinel_one xG2 xT2 v1 (fun b off hm => hrows b off (List.mem_append_right _ (List.mem_append_right _ hm)))
  obtain ⟨a3, q3, n3, c3, rfl, r3, v3⟩ := sentinel_one xG3 xT3 v2 (fun b off hm => hrows b off (List.mem_append_right _ (List.mem_append_right _ (List.mem_append_right _ hm))))
  obtain ⟨name, u, ty, e1, e2, e3, e4, e5⟩ := hh _ (List.mem_singleton.2 rfl)
  have en : name = [101, 114, 114, 111, 114] := (Option.some.inj e1).symm
  subst en
  obtain rfl := Option.some.inj (xRtype.symm.trans e2)
  have hm : ty ∈ (List.range Tryz.prog.types.size).filter fun t => Tryz.prog.rowNamed t [101, 114, 114, 111, 114] := List.mem_filter.2 ⟨List.mem_range.2 e3, e4⟩
  rw [xOneRow] at hm
  obtain rfl := List.mem_singleton.1 hm
  rw [xHandle] at e5
  have l : ∀ (a : Addr), MemPlace.row a 1 = [MemPlace.cell a.block a.off] := fun a => by simp [MemPlace.row]
  simp only [l, List.append_assoc, List.singleton_append] at hnd
  have k0 := (List.nodup_append.1 hnd).2.1
  have m0 := (List.nodup_cons.1 k0).1
  have k1 := (List.nodup_append.1 (List.nodup_cons.1 k0).2).2.1
  have m1 := (List.nodup_cons.1 k1).1
  have k2 := (List.nodup_append.1 (List.nodup_cons.1 k1).2).2.1
  have m2 := (List.nodup_cons.1 k2).1
  refine ⟨a0, a1, a2, a3, by simpa using World.var?_cell xGE e5 0, ⟨c0, c1, c2, c3⟩, ⟨fun e => m0 ?_, fun e => m0 ?_, fun e => m0 ?_, fun e => m1 ?_, fun e => m1 ?_, fun e => m2 ?_⟩, r0, r1, r2, r3⟩
  all_goals (subst e; simp)
theorem trodVars_four {H : Type} {enc : TypeId × Value → H} {P : Program} {W : World} {sp : Nat → Bool} {n0 n1 n2 n3 : String} {gs : List (DataW H)} {ps : List MemPlace} (h : DataW.TrodVars enc P W sp [n0, n1, n2, n3] gs ps) : ∃ d0 d1 d2 d3, gs = [d0, d1, d2, d3] := by
  match gs, h with
  | [], h => exact h.elim
  | [_], h => obtain ⟨_, _, _, _, _, _, _, _, _, _, h, _⟩ := h; exact h.elim
  | [_, _], h => obtain ⟨_, _, _, _, _, _, _, _, _, _, h, _⟩ := h; obtain ⟨_, _, _, _, _, _, _, _, _, _, h, _⟩ := h; exact h.elim
  | [_, _, _], h => obtain ⟨_, _, _, _, _, _, _, _, _, _, h, _⟩ := h; obtain ⟨_, _, _, _, _, _, _, _, _, _, h, _⟩ := h; obtain ⟨_, _, _, _, _, _, _, _, _, _, h, _⟩ := h; exact h.elim
  | [a, b, c, d], _ => exact ⟨a, b, c, d, rfl⟩
  | _ :: _ :: _ :: _ :: _ :: _, h => obtain ⟨_, _, _, _, _, _, _, _, _, _, h, _⟩ := h; obtain ⟨_, _, _, _, _, _, _, _, _, _, h, _⟩ := h; obtain ⟨_, _, _, _, _, _, _, _, _, _, h, _⟩ := h; obtain ⟨_, _, _, _, _, _, _, _, _, _, h, _⟩ := h; exact h.elim
theorem door_met (os : Os) (args : Array Value) : laidMetH Tryz.prog Laid5 ((World.doorLaid Tryz.prog 400 os).forCall (fun _ _ => 0) ⟨#[], args, []⟩).memory :=
  laidMetH_of_parts3 (fuel := 8) (laidMet_of_run' 8 (by kernel_rfl) (by kernel_rfl)) (by kernel_rfl) (by kernel_rfl)
end Go.Proofs.YteopplldbcgjjaaGreatDoor.Mx
namespace Go.Proofs.YteopplldbcgjjaaGreatDoor.Mx
open Go.ChangeShapes Go.WideShapes Go.ChangeAt Go.RowKit
set_option linter.unusedVariables false
def IsRow (k : IntKind) (w : World) (a : Option Addr) (len cap : Nat) (zs : List Int) : Prop :=
  (a = none ∧ len = 0 ∧ cap = 0 ∧ zs = []) ∨
  ∃ x, a = some x ∧ len ≤ cap ∧ cap ≤ maxLen ∧ zs.length = cap ∧ (∀ i, i < zs.length → w.cell? (x.add i) = some (.int k (zs.getD i 0))) ∧ ∀ n ∈ zs, (Lit.int k n).wf = true
section
variable {H : Type} {enc : TypeId × Value → H} {P : Program} {w : World} {base : Nat} {spare : Nat → Bool} {held : Bool}
theorem int_of_trod {t : TypeId} {n : Nat} {v : Value} {y : DataW H × List MemPlace} (ht : P.underlying t = some (.int .i64)) (h : DataW.trod enc P w base spare held n t [v] = some y) : ∃ a, v = .int .i64 a ∧ I64 a := by
  obtain ⟨z, hc, hx, hw⟩ := DataW.trod_int ht h
  simp at hc
  exact ⟨z, hc, bounds_i64 hw⟩
end
end Go.Proofs.YteopplldbcgjjaaGreatDoor.Mx
namespace Go.Proofs.YteopplldbcgjjaaGreatDoor.Mx
open Go.ChangeShapes Go.WideShapes Go.ChangeAt Go.RowKit
set_option linter.unusedVariables false
section
variable {H : Type} {enc : TypeId × Value → H} {P : Program} {w : World} {base : Nat} {held : Bool}
theorem row_of_field {t e : TypeId} {k : IntKind} {n : Nat} {v : Value} {y : DataW H × List MemPlace} (ht : P.underlying t = some (.slice e)) (he : P.underlying e = some (.int k)) (hc : P.cellsOf e = 1)
    (h : DataW.trod enc P w base (fun _ => true) held n t [v] = some y) : ∃ a len cap zs, v = .slice a len cap ∧ IsRow k w a len cap zs := by
  rcases open_ints ht he hc h with ⟨hcs, _⟩ | ⟨x, l, c, zs, hcs, _, hl, hm, hz, _, hcell, hwz⟩
  · simp only [List.cons.injEq, and_true] at hcs
    exact ⟨none, 0, 0, [], hcs, .inl ⟨rfl, rfl, rfl, rfl⟩⟩
  · simp only [List.cons.injEq, and_true] at hcs
    exact ⟨some x, l, c, zs, hcs, .inr ⟨_, rfl, hl, hm, by simpa using hz, hcell, hwz⟩⟩
end
theorem IsRow.list {k : IntKind} {w : World} {a : Option Addr} {len cap : Nat} {zs : List Int} (h : IsRow k w a len cap zs) : ∃ l : List Int, len = l.length ∧ Ints w k w.heap.size a l ∧ l.length ≤ maxLen ∧ l.length ≤ cap := by
  rcases h with ⟨rfl, rfl, rfl, rfl⟩ | ⟨x, rfl, hl, hm, hz, hcell, hwz⟩
  · exact ⟨[], rfl, Ints.nil, by simp [maxLen], Nat.le_refl _⟩
  · have hlen : (zs.take len).length = len := by rw [List.length_take]; omega
    exact ⟨zs.take len, hlen.symm, ints_of_row (by omega) hcell, by omega, by omega⟩
end Go.Proofs.YteopplldbcgjjaaGreatDoor.Mx
namespace Go.Proofs.YteopplldbcgjjaaGreatDoor.Mx
open Go.ChangeShapes Go.WideShapes Go.ChangeAt Go.RowKit Go.Joins Go.Deep
set_option linter.unusedVariables false
section
variable {H : Type} {enc : TypeId × Value → H} {P : Program} {w : World} {base : Nat} {spare : Nat → Bool} {held : Bool}
theorem agg_of_trod {r : Reach} {b0 : Nat} {t : TypeId} {fs : Array Field} {v : Value} {d : DataW H} {p : List MemPlace} (hs : P.underlying t = some (.struct fs)) (hone : oneCellFields P fs = true) (hC : P.cellsOf t = fs.size)
    (hv : Value.okWide P w r b0 t v) (h : DataW.Trod enc P w base spare held t v d p) :
    ∃ cs : Array Value, v = .agg cs ∧ cs.size = fs.size ∧ ∀ (j : Nat) (f : Field), fs[j]? = some f → ∃ x n y, cs[j]? = some x ∧ DataW.trod enc P w base spare held n f.type [x] = some y := by
  obtain ⟨cs, rfl, hsz⟩ := okWide_struct hs hv
  obtain ⟨fuel, hf⟩ := h
  obtain ⟨ys, n, hn, hy, hlen, hyl, hg⟩ := DataW.trod_struct hs hf
  refine ⟨cs, rfl, hsz.trans hC, fun j f hj => ?_⟩
  have hjc : j < cs.size := by have := (Array.getElem?_eq_some_iff.1 hj).1; omega
  have hjy : j < ys.length := by rw [hyl]; exact (Array.getElem?_eq_some_iff.1 hj).1
  have h1 := hg j f hj
  rw [(hone_of hone j f hj).1, (hone_of hone j f hj).2] at h1
  have hd : ((Value.cells (.agg cs)).toList.drop j).take 1 = [cs[j]] := by
    rw [show Value.cells (.agg cs) = cs by simp [Value.cells], List.drop_eq_getElem_cons (by simpa using hjc)]
    simp
  rw [hd, List.getElem?_eq_getElem hjy] at h1
  exact ⟨_, _, _, Array.getElem?_eq_getElem hjc, h1⟩
theorem bool_of_trod {t : TypeId} {n : Nat} {v : Value} {y : DataW H × List MemPlace} (ht : P.underlying t = some .bool) (h : DataW.trod enc P w base spare held n t [v] = some y) : ∃ a, v = .bool a := by
  obtain ⟨b, hc, -⟩ := DataW.trod_bool ht h
  exact ⟨b, by simpa using hc⟩
theorem eight {cs : Array Value} {x0 x1 x2 x3 x4 x5 x6 x7 : Value} (hz : cs.size = 8) (h0 : cs[0]? = some x0) (h1 : cs[1]? = some x1) (h2 : cs[2]? = some x2) (h3 : cs[3]? = some x3) (h4 : cs[4]? = some x4) (h5 : cs[5]? = some x5) (h6 : cs[6]? = some x6) (h7 : cs[7]? = some x7) : cs = #[x0, x1, x2, x3, x4, x5, x6, x7] := by
  apply Array.ext_getElem?
  intro i
  rcases Nat.lt_or_ge i 8 with h | h
  · match i, h with
    | 0, _ => simpa using h0
    | 1, _ => simpa using h1
    | 2, _ => simpa using h2
    | 3, _ => simpa using h3
    | 4, _ => simpa using h4
    | 5, _ => simpa using h5
    | 6, _ => simpa using h6
    | 7, _ => simpa using h7
  · rw [Array.getElem?_eq_none (by omega), Array.getElem?_eq_none (by simpa using h)]
end
end Go.Proofs.YteopplldbcgjjaaGreatDoor.Mx

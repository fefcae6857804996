import Derived.Test.YteopplldbcgjjaaGreatDoorG22
import Derived.Test.YteopplldbcgjjaaGreatDoorG01
import Derived.Test.YteopplldbcgjjaaGreatDoorG05
import Derived.Test.YteopplldbcgjjaaGreatDoorG28
import Derived.Test.YteopplldbcgjjaaGreatDoorG32
import Derived.Test.YteopplldbcgjjaaGreatDoorG35
import Derived.Test.YteopplldbcgjjaaGreatDoorG34
import Derived.Test.YteopplldbcgjjaaGreatDoorRows
import Derived.LaidLaws
import Derived.LaidMore
import Derived.LaidHandle
import Derived.Test.YteopplldbcgjjaaGreatDoorG03
import Derived.OpenShut
import Derived.ShutString
import Derived.ChangeOld
namespace Go.Proofs.YteopplldbcgjjaaGreatDoor.Mx
open Go.ChangeShapes Go.WideShapes Go.ChangeAt Go.RowKit
set_option linter.unusedVariables false
def TouchSays (key : Int) (l : List Int) (t : Tru) (x ct cv value : Int) (r : Tru) (e0 e1 n k : Int) : Prop :=
  (k = 1 ∧ e0 = 0 ∧ e1 = 0) ∨ ((k = 2 ∨ k = 3 ∨ k = 4) ∧ e0 = ct ∧ e1 = cv ∧ n = 0 ∧ r.clock = t.clock ∧ (r.failed = true ∨ k = 3)) ∨
    (k = 0 ∧ (0 ≤ t.clock ∧ t.clock ≤ 99999) ∧ r.clock = t.clock + 1 ∧ e0 = r.clock ∧ (I64 e0 ∧ I64 e1) ∧ valueIn key x e0 e1 = (if value = -1 then n else value) ∧ n = valueIn key x ct cv ∧ trustOk key l (regionOf key l x) r ∧ I64 key)
theorem valueOfCell {key a t v : Int} (hk : isKey key) (ha : isAt a) (ht : isTm t) (hv : isVal v) : valueIn key a (cellOf key a t v).1 (cellOf key a t v).2 = v := by
  have h : isTri a t v := ⟨ha, ht, hv⟩
  have hc := cellOf_cell hk ha ht hv
  rw [cellOf_yes hk h] at hc ⊢
  rw [valueIn_yes hk ha hc]
  show shownOf key a t (hiddenOf key a t v) = v
  exact shown_hidden (by have := (hiddenOf_val hk h).1; omega)
theorem touch_says (key : Int) (l : List Int) (t : Tru) (x ct cv value : Int) :
    TouchSays key l t x ct cv value (touched key l t x ct cv value).1 (touched key l t x ct cv value).2.1.1 (touched key l t x ct cv value).2.1.2 (touched key l t x ct cv value).2.2.1 (touched key l t x ct cv value).2.2.2 := by
  by_cases hok : touchOk key l t x ct cv value
  · by_cases hf : t.failed = true
    · have e : touched key l t x ct cv value = (t, (ct, cv), 0, 2) := by unfold touched; rw [if_pos hok, if_pos hf]
      rw [e]; exact .inr (.inl ⟨.inl rfl, rfl, rfl, rfl, rfl, .inl hf⟩)
    · by_cases hc : 100000 ≤ t.clock
      · have e : touched key l t x ct cv value = (t, (ct, cv), 0, 3) := by unfold touched; rw [if_pos hok, if_neg hf, if_pos hc]
        rw [e]; exact .inr (.inl ⟨.inr (.inl rfl), rfl, rfl, rfl, rfl, .inr rfl⟩)
      · by_cases ht : t.clock < ct
        · have e : touched key l t x ct cv value = (⟨t.clock, t.epoch, t.cursor, t.read, t.written, t.nread, t.nwritten, true⟩, (ct, cv), 0, 4) := by unfold touched; rw [if_pos hok, if_neg hf, if_neg hc, if_pos ht]
          rw [e]; exact .inr (.inl ⟨.inr (.inr rfl), rfl, rfl, rfl, rfl, .inl rfl⟩)
        · have hp := hok.2.1.1
          have ha := planOk_at hp hok.1
          have hcl := hok.2.1.2.2.1
          have htm : isTm (t.clock + 1) := by unfold isTm at hcl ⊢; omega
          have hk0 : (touched key l t x ct cv value).2.2.2 = 0 := by unfold touched; rw [if_pos hok, if_neg hf, if_neg hc, if_neg ht]
          have hr := touched_right (value := value) hp hok.1 hok.2.1 hok.2.2.1 (by rw [hk0]; decide)
          have hn : (touched key l t x ct cv value).2.2.1 = valueIn key x ct cv := by unfold touched; rw [if_pos hok, if_neg hf, if_neg hc, if_neg ht]
          have hcell : (touched key l t x ct cv value).2.1 = cellOf key x (t.clock + 1) (if value = -1 then valueIn key x ct cv else value) := by unfold touched; rw [if_pos hok, if_neg hf, if_neg hc, if_neg ht]
          have hclk : (touched key l t x ct cv value).1.clock = t.clock + 1 := by
            unfold touched; rw [if_pos hok, if_neg hf, if_neg hc, if_neg ht]
            unfold sumsT
            split <;> rfl
          have hv : isVal (if value = -1 then valueIn key x ct cv else value) := by
            split
            · rw [valueIn_yes hp.1 ha hok.2.2.1]; exact shownOf_val hp.1 ha hok.2.2.1
            · rcases hok.2.2.2 with h | h
              · exact absurd h ‹_›
              · exact h
          have h8 := hr.2
          unfold isCell isTm isVal at h8
          refine .inr (.inr ⟨hk0, by unfold isTm at hcl; omega, hclk, ?_, ⟨⟨by omega, by omega⟩, ⟨by omega, by omega⟩⟩, ?_, hn, hr.1, ⟨by have := hp.1; omega, by have := hp.1; omega⟩⟩)
          · rw [hclk, hcell, cellOf_yes hp.1 ⟨ha, htm, hv⟩]
          · rw [hcell, hn]
            exact valueOfCell hp.1 ha htm hv
  · have e : touched key l t x ct cv value = (zeroTru, (0, 0), 0, 1) := by unfold touched; rw [if_neg hok]
    rw [e]; exact .inl ⟨rfl, rfl, rfl⟩
theorem big_no (A : Option Addr) (n cap : Nat) (w : World) (h : n ≤ 4096) :
    Calls Tryz.prog 7 #[.slice A n cap] w fun e w' => e = .returned (.bool false) ∧ w = w' := by
  have h' : ¬ (4096 : Int) < n := by omega
  go_enter Tryz.func7, Tryz.ntmps7
  go_wp2
  go_ret
  exact ⟨by simp, rfl⟩
theorem big_yes (A : Option Addr) (n cap : Nat) (w : World) (h : 4096 < n) :
    Calls Tryz.prog 7 #[.slice A n cap] w fun e w' => e = .returned (.bool true) ∧ w = w' := by
  have h' : (4096 : Int) < n := by omega
  go_enter Tryz.func7, Tryz.ntmps7
  go_wp2
  go_ret
  exact ⟨by simp, rfl⟩
theorem ceGuardT : Tryz.prog.eqGuardType Tryz.prog.depth 30 = false := by kernel_rfl
theorem truGuardT : Tryz.prog.eqGuardType Tryz.prog.depth 28 = false := by kernel_rfl
set_option maxRecDepth 20000 in
set_option maxHeartbeats 16000000 in
theorem touchedFn_calls (a0 a1 a2 a3 : Addr) (A : Option Addr) (l : List Int) (cap : Nat) (w : World) (hn : l.length ≤ maxLen) (hA : Ints w .u8 w.heap.size A l) (he : Errs w a0 a1 a2 a3) :
    Calls Tryz.prog 3 #[.slice A l.length cap] w fun e w' => e = .returned (.bool true) ∧ Below w.heap.size w w' := by
  by_cases hs : 4096 < l.length
  · go_enter Tryz.func3, Tryz.ntmps3
    go_wp2_with fail
    refine (big_yes A l.length cap w hs).mono ?_; rintro e w' ⟨rfl, rfl⟩
    go_wp2_with fail
    go_ret
    exact ⟨rfl, Below.refl _ _⟩
  · have hs' : l.length ≤ 4096 := by omega
    have HN := Lib.hid hs'
    have HA := Lib.hid hA
    have HE := Lib.hid he
    clear hs hn hA he
    go_enter Tryz.func3, Tryz.ntmps3
    go_wp2_with fail
    refine (big_no A l.length cap w hs').mono ?_; rintro e w' ⟨rfl, rfl⟩
    go_wp2_with fail
    refine (drawTouched_calls A l cap w HN.out HA.out).mono ?_; rintro e w1 ⟨key, Q, zs, c, t, x, ct, cv, value, rfl, hx, hct, hcv, hval, h5, hc, ht, hI, b1⟩
    have HX := Lib.hid hx
    have HCT := Lib.hid (show I64 ct ∧ I64 cv from ⟨hct, hcv⟩)
    have h5' : zs.length ≤ 1048576 := by omega
    have h5m : zs.length ≤ maxLen := by unfold maxLen; omega
    have HL := Lib.hid h5'
    have HM := Lib.hid h5m
    have HC := Lib.hid hc
    clear h5 h5' h5m hc hs' hval ht hct hcv
    have K0 := Lib.hid ((Kept.refl w).below b1)
    have J0 := Lib.hid hI
    have E0 := Lib.hid (HE.out.below b1)
    clear hI b1 HA HE HN hx
    have K1 := Lib.hid (K0.out.put1 w1.heap.size 26 (pA key Q zs.length c) (rfl))
    have I2 := Lib.hid ((J0.out.below (box_below w1 (.cells (pA key Q zs.length c) 26)) (Nat.le_refl _)).more ((box_below w1 (.cells (pA key Q zs.length c) 26))).size)
    have E3 := Lib.hid (E0.out.below ((box_below w1 (.cells (pA key Q zs.length c) 26))))
    clear K0 J0 E0
    have K4 := Lib.hid (K1.out.put1 (w1.heap.size + 1) 28 (tR t) (by simp))
    have I5 := Lib.hid ((I2.out.below (box_below (w1.alloc (.cells (pA key Q zs.length c) 26)) (.cells (tR t) 28)) (Nat.le_refl _)).more ((box_below (w1.alloc (.cells (pA key Q zs.length c) 26)) (.cells (tR t) 28))).size)
    have E6 := Lib.hid (E3.out.below ((box_below (w1.alloc (.cells (pA key Q zs.length c) 26)) (.cells (tR t) 28))))
    clear K1 I2 E3
    have K7 := Lib.hid (K4.out.put1 (w1.heap.size + 1 + 1) 30 (cA ct cv) (by simp))
    have I8 := Lib.hid ((I5.out.below (box_below ((w1.alloc (.cells (pA key Q zs.length c) 26)).alloc (.cells (tR t) 28)) (.cells (cA ct cv) 30)) (Nat.le_refl _)).more ((box_below ((w1.alloc (.cells (pA key Q zs.length c) 26)).alloc (.cells (tR t) 28)) (.cells (cA ct cv) 30))).size)
    have E9 := Lib.hid (E6.out.below ((box_below ((w1.alloc (.cells (pA key Q zs.length c) 26)).alloc (.cells (tR t) 28)) (.cells (cA ct cv) 30))))
    clear K4 I5 E6
    go_upto_region 4 with fail
    generalize World.alloc (World.alloc _ _) _ = v1 at K7 I8 E9 ⊢
    obtain ⟨kc0, kf0, kc1, kf1, kc2, kf2, -⟩ := K7.out.rd
    have CI := Lib.hid (fun (u : World) hE hQ => implTouched_calls a0 a1 a2 a3 key x ct cv value Q zs c t.clock t.epoch t.cursor t.read t.written t.nread t.nwritten t.failed u HL.out HC.out hQ HX.out HCT.out.1 HCT.out.2 hE)
    have CS := Lib.hid (fun (u : World) hQ => specTouched_calls key x ct cv value Q zs c t.clock t.epoch t.cursor t.read t.written t.nread t.nwritten t.failed u HM.out HC.out hQ HX.out)
    have hsay := touch_says key zs t x ct cv value
    rw [show (⟨t.clock, t.epoch, t.cursor, t.read, t.written, t.nread, t.nwritten, t.failed⟩ : Tru) = t from rfl] at CI CS
    generalize touched key zs t x ct cv value = R at CI CS hsay
    obtain ⟨r, ⟨e0, e1⟩, n, k⟩ := R
    simp only [] at CI CS hsay
    have HSAY := Lib.hid hsay
    clear hsay
    go_wp2_with fail
    refine (CI.out _ E9.out I8.out).mono ?_; rintro e wa ⟨rfl, ba⟩
    clear kc0 kf0 kc1 kf1 kc2 kf2
    have K10 := Lib.hid (K7.out.below (ba))
    have I11 := Lib.hid ((I8.out.below ba (Nat.le_refl _)).more (ba).size)
    have E12 := Lib.hid (E9.out.below (ba))
    clear K7 I8 E9
    clear ba CI
    have K13 := Lib.hid (K10.out.put1 wa.heap.size 28 (tR r) (rfl))
    have I14 := Lib.hid ((I11.out.below (box_below wa (.cells (tR r) 28)) (Nat.le_refl _)).more ((box_below wa (.cells (tR r) 28))).size)
    have E15 := Lib.hid (E12.out.below ((box_below wa (.cells (tR r) 28))))
    clear K10 I11 E12
    have K16 := Lib.hid (K13.out.put1 (wa.heap.size + 1) 30 (cA e0 e1) (by simp))
    have I17 := Lib.hid ((I14.out.below (box_below (wa.alloc (.cells (tR r) 28)) (.cells (cA e0 e1) 30)) (Nat.le_refl _)).more ((box_below (wa.alloc (.cells (tR r) 28)) (.cells (cA e0 e1) 30))).size)
    have E18 := Lib.hid (E15.out.below ((box_below (wa.alloc (.cells (tR r) 28)) (.cells (cA e0 e1) 30))))
    clear K13 I14 E15
    go_upto_region 5 with fail
    generalize World.alloc (World.alloc _ _) _ = v2 at K16 I17 E18 ⊢
    obtain ⟨kc0, kf0, kc1, kf1, kc2, kf2, kc3, kf3, kc4, kf4, -⟩ := K16.out.rd
    go_wp2_with fail
    refine (CS.out _ I17.out).mono ?_; rintro e wb ⟨rfl, bb⟩
    clear kc0 kf0 kc1 kf1 kc2 kf2 kc3 kf3 kc4 kf4
    have K19 := Lib.hid (K16.out.below (bb))
    have I20 := Lib.hid ((I17.out.below bb (Nat.le_refl _)).more (bb).size)
    have E21 := Lib.hid (E18.out.below (bb))
    clear K16 I17 E18
    clear bb CS
    have K22 := Lib.hid (K19.out.put1 wb.heap.size 28 (tR r) (rfl))
    have I23 := Lib.hid ((I20.out.below (box_below wb (.cells (tR r) 28)) (Nat.le_refl _)).more ((box_below wb (.cells (tR r) 28))).size)
    have E24 := Lib.hid (E21.out.below ((box_below wb (.cells (tR r) 28))))
    clear K19 I20 E21
    have K25 := Lib.hid (K22.out.put1 (wb.heap.size + 1) 30 (cA e0 e1) (by simp))
    have I26 := Lib.hid ((I23.out.below (box_below (wb.alloc (.cells (tR r) 28)) (.cells (cA e0 e1) 30)) (Nat.le_refl _)).more ((box_below (wb.alloc (.cells (tR r) 28)) (.cells (cA e0 e1) 30))).size)
    have E27 := Lib.hid (E24.out.below ((box_below (wb.alloc (.cells (tR r) 28)) (.cells (cA e0 e1) 30))))
    clear K22 I23 E24
    go_upto_region 6 with fail
    generalize World.alloc (World.alloc _ _) _ = v3 at K25 I26 E27 ⊢
    obtain ⟨kc0, kf0, kc1, kf1, kc2, kf2, kc3, kf3, kc4, kf4, kc5, kf5, kc6, kf6, -⟩ := K25.out.rd
    have hm := truGuardT
    have hm2 := ceGuardT
    rcases HSAY.out with ⟨rfl, rfl, rfl⟩ | ⟨hk, rfl, rfl, rfl, hcl, hfk⟩ | ⟨rfl, ⟨c0, c1⟩, hcl, rfl, he, hv, hn, htr, hkey⟩
    · clear HSAY
      go_wp2_with fail
      go_ret
      exact ⟨rfl, K25.out.1⟩
    · have hcl2 : (r.clock == t.clock) = true := by simp [hcl]
      clear HSAY hcl
      rcases hk with rfl | rfl | rfl
      · have hf : r.failed = true := hfk.elim id (fun h => absurd h (by decide))
        clear hfk
        go_wp2_with fail
        go_ret
        exact ⟨rfl, K25.out.1⟩
      · rcases hb : r.failed with _ | _
        all_goals
          clear hfk
          go_wp2_with fail
          go_ret
          exact ⟨rfl, K25.out.1⟩
      · have hf : r.failed = true := hfk.elim id (fun h => absurd h (by decide))
        clear hfk
        go_wp2_with fail
        go_ret
        exact ⟨rfl, K25.out.1⟩
    · have hwr : IntKind.i64.wrap (t.clock + 1) = t.clock + 1 := IntWalk.i64_in _ (by omega)
      have hb1 : (r.clock == t.clock + 1) = true := by simp [hcl]
      have hb2 : (r.clock == r.clock) = true := by simp
      have hb4 : (n == valueIn key x ct cv) = true := by simp [hn]
      have HTB := Lib.hid (trustB_yes htr)
      have HV := Lib.hid hv
      have HKEY := Lib.hid hkey
      have HEI := Lib.hid he
      clear HSAY c0 c1 hcl hn htr hkey he hv
      have PV := Lib.hid (fun (a b : Int) (hab : I64 a ∧ I64 b) (u : World) (hu : Below v3.heap.size v3 u) => (ansValueIn key x a b u HKEY.out HX.out hab.1 hab.2).mono (fun e w' ⟨he, hb⟩ => (⟨he, hu.trans (hb.mono hu.size)⟩ : _ ∧ Below v3.heap.size v3 w')))
      have PR := Lib.hid (fun (u : World) (hu : Below v3.heap.size v3 u) => (regionOf_calls key x Q zs c u HM.out HC.out ((I26.out.below hu (Nat.le_refl _)).more hu.size) HX.out).mono (fun e w' ⟨he, hb⟩ => (⟨he, hu.trans (hb.mono hu.size)⟩ : _ ∧ Below v3.heap.size v3 w')))
      have PT0 := fun (u : World) (hu : Below v3.heap.size v3 u) => (implTrustOk_calls key (regionOf key zs x) Q zs c r.clock r.epoch r.cursor r.read r.written r.nread r.nwritten r.failed u HL.out HC.out ((I26.out.below hu (Nat.le_refl _)).more hu.size)).mono (fun e w' ⟨he, hb⟩ => (⟨he, hu.trans (hb.mono hu.size)⟩ : _ ∧ Below v3.heap.size v3 w'))
      rw [show (⟨r.clock, r.epoch, r.cursor, r.read, r.written, r.nread, r.nwritten, r.failed⟩ : Tru) = r from rfl, HTB.out] at PT0
      have PT := Lib.hid PT0
      clear PT0 HTB
      generalize regionOf key zs x = rg at PR PT
      have hPV1 := Lib.hid (PV.out _ _ HEI.out)
      have hPV2 := Lib.hid (PV.out _ _ HCT.out)
      clear PV
      generalize hy1 : valueIn key x r.clock e1 = y1 at hPV1 HV
      generalize hy2 : valueIn key x ct cv = y2 at hPV2 hb4
      clear hy1 hy2
      by_cases hm1 : value = -1
      case' pos =>
        have hq : (value == -1) = true := by simpa using hm1
        have hb3 : (y1 == n) = true := by rw [HV.out, if_pos hm1]; simp
        clear hm1 HV
      case' neg =>
        have hq : (value == -1) = false := by simpa using hm1
        have hb3 : (y1 == value) = true := by rw [HV.out, if_neg hm1]; simp
        clear hm1 HV
      all_goals
        go_upto_region 15 with fail
        clear kc0 kf0 kc1 kf1 kc2 kf2 kc3 kf3 kc4 kf4 kc5 kf5 kc6 kf6
        refine wp_region_class (C := fun u => Below v3.heap.size v3 u) (by kernel_rfl) (by kernel_rfl) (Below.refl _ _).drew ?_
        iterate 20 (first
          | go_big_quiet_skip
          | (go_big_quiet_want
             go_big_quiet_op
             first
               | go_big_quiet_on
               | (apply Exists.intro
                  refine ⟨fun u hu => ?_, ?_⟩
                  · first
                      | with_reducible rfl
                      | (go_at_call 11; exact hPV1.out u hu)
                      | (go_at_call 13; exact PR.out u hu)
                      | (go_at_call 12; exact PT.out u hu)
                      | (obtain ⟨kc0, kf0, kc1, kf1, kc2, kf2, kc3, kf3, kc4, kf4, kc5, kf5, kc6, kf6, -⟩ := (K25.out.below hu).rd; go_simp; first | done | with_reducible rfl)
                  go_big_quiet_on)))
        iterate 20 (first
          | go_big_quiet_skip
          | (go_big_quiet_want
             go_big_quiet_op
             first
               | go_big_quiet_on
               | (apply Exists.intro
                  refine ⟨fun u hu => ?_, ?_⟩
                  · first
                      | with_reducible rfl
                      | (go_at_call 11; exact hPV2.out u hu)
                      | (go_at_call 13; exact PR.out u hu)
                      | (go_at_call 12; exact PT.out u hu)
                      | (obtain ⟨kc0, kf0, kc1, kf1, kc2, kf2, kc3, kf3, kc4, kf4, kc5, kf5, kc6, kf6, -⟩ := (K25.out.below hu).rd; go_simp; first | done | with_reducible rfl)
                  go_big_quiet_on)))
        refine wpQuiet_nil ?_
        intro wz hz
        go_wp2_with fail
        go_ret
        exact ⟨rfl, (K25.out.below hz).1⟩
open Go.ChangeShapes Go.WideShapes Go.RowKit
def Laid5 : List (String × DataW Unit) := [("errors.errorType", Rows.laid_errors_errorType), ("loop.example/g00775/impl.errBad", Rows.laid_loop_example_g00775_impl_errBad), ("loop.example/g00775/impl.errFailed", Rows.laid_loop_example_g00775_impl_errFailed), ("loop.example/g00775/impl.errSpent", Rows.laid_loop_example_g00775_impl_errSpent), ("loop.example/g00775/impl.errCaught", Rows.laid_loop_example_g00775_impl_errCaught)]
theorem xStar : "*" ++ "errors.errorString" = "*errors.errorString" := by decide
theorem xRowES (u : TypeId) (h : Tryz.prog.typeName? 3 u = some "*errors.errorString") : u = 212 :=
  typeName_ptr_named (nm := "errors.errorString") (by rw [xStar]; kernel_rfl) (by kernel_rfl) (by decide) u (by rw [xStar]; exact h)
theorem xCellsE : Tryz.prog.cellsOf 234 = 1 := by kernel_rfl
theorem xCellsS : Tryz.prog.cellsOf 9 = 1 := by kernel_rfl
theorem xG0 : Tryz.prog.globalNamed "loop.example/g00775/impl.errBad" = some 3 := by kernel_rfl
theorem xT0 : (Tryz.prog.globals[3]?).map (·.type) = some 69 := by kernel_rfl
theorem xG1 : Tryz.prog.globalNamed "loop.example/g00775/impl.errFailed" = some 0 := by kernel_rfl
theorem xT1 : (Tryz.prog.globals[0]?).map (·.type) = some 69 := by kernel_rfl
theorem xG2 : Tryz.prog.globalNamed "loop.example/g00775/impl.errSpent" = some 1 := by kernel_rfl
theorem xT2 : (Tryz.prog.globals[1]?).map (·.type) = some 69 := by kernel_rfl
theorem xG3 : Tryz.prog.globalNamed "loop.example/g00775/impl.errCaught" = some 2 := by kernel_rfl
theorem xT3 : (Tryz.prog.globals[2]?).map (·.type) = some 69 := by kernel_rfl
theorem xGE : Tryz.prog.globalNamed "errors.errorType" = some 4 := by kernel_rfl
theorem xRtype : (Tryz.prog.cutTypes.find? (·.1 == "internal/reflectlite.rtype")).map (·.2) = some 178 := by kernel_rfl
theorem xOneRow : ((List.range Tryz.prog.types.size).filter fun t => Tryz.prog.rowNamed t [101, 114, 114, 111, 114]) = [69] := by kernel_rfl
theorem xHandle : typeHandle Tryz.prog 69 = .pointer (some ⟨5, 69, none⟩) := by kernel_rfl
set_option maxRecDepth 100000 in
theorem sentinel_one {W : World} {n : String} {g : Nat} {text : List UInt8} {r : List (String × DataW Unit)} {ps : List MemPlace} (hg : Tryz.prog.globalNamed n = some g) (ht : (Tryz.prog.globals[g]?).map (·.type) = some 69)
    (h : DataW.LaidVars Tryz.prog W ((n, .iface "*errors.errorString" (.ptr (.agg [.lit (.string text)]))) :: r) ps)
    (hrows : ∀ b off, MemPlace.cell b off ∈ ps → (∃ c t, W.heap[b]? = some (.cells c t (0, 0))) ∧ ∀ u v, W.cell? ⟨b, off, none⟩ = some (.iface u v) → Value.okWide Tryz.prog W .any 0 u v) :
    ∃ a q n0, W.cell? ⟨g, 0, none⟩ = some (.iface 212 (.pointer (some a))) ∧ ps = n0 ++ MemPlace.row a 1 ++ q ∧ (∃ c t, W.heap[a.block]? = some (.cells c t (0, 0))) ∧ DataW.LaidVars Tryz.prog W r q := by
  obtain ⟨g', t', cs, f, p, q, hg', ht', hv, hd, hr, rfl⟩ := h
  obtain rfl := Option.some.inj (hg.symm.trans hg')
  obtain rfl := Option.some.inj (ht.symm.trans ht')
  obtain ⟨l0⟩ := cs
  have ok0 : ∀ u v, l0 = [.iface u v] → Value.okWide Tryz.prog W .any 0 u v := fun u v e => by
    subst e
    exact (hrows g 0 (by simp [MemPlace.row])).2 u v (by simpa using World.var?_cell hg' hv 0)
  obtain ⟨a0, s0, rfl, hc0, hs0, hz0, rfl⟩ := errorString_of_trod Tryz.underlying69 xRowES Tryz.underlying212 Tryz.underlying234 rfl rfl Tryz.underlying9 xCellsE xCellsS hd ok0
  exact ⟨a0, q, _, by simpa using World.var?_cell hg' hv 0, rfl, (hrows a0.block a0.off (by simp [MemPlace.row])).1, hr⟩
set_option maxRecDepth 100000 in
theorem errs_of_laid {W : World} (h : laidMetH Tryz.prog Laid5 W) : ∃ a0 a1 a2 a3, Errs W a0 a1 a2 a3 := by
  have h' : laidMet Tryz.prog [("loop.example/g00775/impl.errBad", Rows.laid_loop_example_g00775_impl_errBad), ("loop.example/g00775/impl.errFailed", Rows.laid_loop_example_g00775_impl_errFailed), ("loop.example/g00775/impl.errSpent", Rows.laid_loop_example_g00775_impl_errSpent), ("loop.example/g00775/impl.errCaught", Rows.laid_loop_example_g00775_impl_errCaught)] W ∧ handlesMet Tryz.prog [("errors.errorType", Rows.laid_errors_errorType)] W := h
  obtain ⟨⟨ps, hv, hnd, hrows⟩, hh⟩ := h'
  obtain ⟨a0, q0, n0, c0, rfl, r0, v0⟩ := sentinel_one xG0 xT0 hv hrows
  obtain ⟨a1, q1, n1, c1, rfl, r1, v1⟩ := sentinel_one xG1 xT1 v0 (fun b off hm => hrows b off (List.mem_append_right _ hm))
  obtain ⟨a2, q2, n2, c2, rfl, r2, v2⟩ := sentinel_one xG2 xT2 v1 (fun b off hm => hrows b off (List.mem_append_right _ (List.mem_append_right _ hm)))
  obtain ⟨a3, q3, n3, c3, rfl, r3, v3⟩ := sentinel_one xG3 xT3 v2 (fun b off hm => hrows b off (List.mem_append_right _ (List.mem_append_right _ (List.mem_append_right _ hm))))
  obtain ⟨name, u, ty, e1, e2, e3, e4, e5⟩ := hh _ (List.mem_singleton.2 rfl)
  have en : name = [101, 114, 114, 111, 114] := (Option.some.inj e1).symm
  subst en
  obtain rfl := Option.some.inj (xRtype.symm.trans e2)
  have hm : ty ∈ (List.range Tryz.prog.types.size).filter fun t => Tryz.prog.rowNamed t [101, 114, 114, 111, 114] := List.mem_filter.2 ⟨List.mem_range.2 e3, e4⟩
  rw [xOneRow] at hm
  obtain rfl := List.mem_singleton.1 hm
  rw [xHandle] at e5
  have l : ∀ (a : Addr), MemPlace.row a 1 = [MemPlace.cell a.block a.off] := fun a => by simp [MemPlace.row]
  simp only [l, List.append_assoc, List.singleton_append] at hnd
  have k0 := (List.nodup_append.1 hnd).2.1
  have m0 := (List.nodup_cons.1 k0).1
  have k1 := (List.nodup_append.1 (List.nodup_cons.1 k0).2).2.1
  have m1 := (List.nodup_cons.1 k1).1
  have k2 := (List.nodup_append.1 (List.nodup_cons.1 k1).2).2.1
  have m2 := (List.nodup_cons.1 k2).1
  refine ⟨a0, a1, a2, a3, by simpa using World.var?_cell xGE e5 0, ⟨c0, c1, c2, c3⟩, ⟨fun e => m0 ?_, fun e => m0 ?_, fun e => m0 ?_, fun e => m1 ?_, fun e => m1 ?_, fun e => m2 ?_⟩, r0, r1, r2, r3⟩
  all_goals (subst e; simp)
theorem trodVars_four {H : Type} {enc : TypeId × Value → H} {P : Program} {W : World} {sp : Nat → Bool} {n0 n1 n2 n3 : String} {gs : List (DataW H)} {ps : List MemPlace} (h : DataW.TrodVars enc P W sp [n0, n1, n2, n3] gs ps) : ∃ d0 d1 d2 d3, gs = [d0, d1, d2, d3] := by
  match gs, h with
  | [], h => exact h.elim
  | [_], h => obtain ⟨_, _, _, _, _, _, _, _, _, _, h, _⟩ := h; exact h.elim
  | [_, _], h => obtain ⟨_, _, _, _, _, _, _, _, _, _, h, _⟩ := h; obtain ⟨_, _, _, _, _, _, _, _, _, _, h, _⟩ := h; exact h.elim
  | [_, _, _], h => obtain ⟨_, _, _, _, _, _, _, _, _, _, h, _⟩ := h; obtain ⟨_, _, _, _, _, _, _, _, _, _, h, _⟩ := h; obtain ⟨_, _, _, _, _, _, _, _, _, _, h, _⟩ := h; exact h.elim
  | [a, b, c, d], _ => exact ⟨a, b, c, d, rfl⟩
  | _ :: _ :: _ :: _ :: _ :: _, h => obtain ⟨_, _, _, _, _, _, _, _, _, _, h, _⟩ := h; obtain ⟨_, _, _, _, _, _, _, _, _, _, h, _⟩ := h; obtain ⟨_, _, _, _, _, _, _, _, _, _, h, _⟩ := h; obtain ⟨_, _, _, _, _, _, _, _, _, _, h, _⟩ := h; exact h.elim
theorem door_met (os : Os) (args : Array Value) : laidMetH Tryz.prog Laid5 ((World.doorLaid Tryz.prog 400 os).forCall (fun _ _ => 0) ⟨#[], args, []⟩).memory :=
  laidMetH_of_parts3 (fuel := 8) (laidMet_of_run' 8 (by kernel_rfl) (by kernel_rfl)) (by kernel_rfl) (by kernel_rfl)
def IsRow (k : IntKind) (w : World) (a : Option Addr) (len cap : Nat) (zs : List Int) : Prop :=
  (a = none ∧ len = 0 ∧ cap = 0 ∧ zs = []) ∨
  ∃ x, a = some x ∧ len ≤ cap ∧ cap ≤ maxLen ∧ zs.length = cap ∧ (∀ i, i < zs.length → w.cell? (x.add i) = some (.int k (zs.getD i 0))) ∧ ∀ n ∈ zs, (Lit.int k n).wf = true
section
variable {H : Type} {enc : TypeId × Value → H} {P : Program} {w : World} {base : Nat} {spare : Nat → Bool} {held : Bool}
theorem row_of_trod {t e : TypeId} {k : IntKind} {a : Option Addr} {len cap : Nat} {d : DataW H} {p : List MemPlace} (ht : P.underlying t = some (.slice e)) (he : P.underlying e = some (.int k)) (hc : P.cellsOf e = 1)
    (h : DataW.Trod enc P w base (fun _ => true) held t (.slice a len cap) d p) : ∃ zs, IsRow k w a len cap zs := by
  obtain ⟨fuel, hf⟩ := h
  rcases open_ints ht he hc hf with ⟨hcs, _⟩ | ⟨x, l, c, zs, hcs, _, hl, hm, hz, _, hcell, hwz⟩
  · simp [Value.cells] at hcs
    obtain ⟨rfl, rfl, rfl⟩ := hcs
    exact ⟨[], .inl ⟨rfl, rfl, rfl, rfl⟩⟩
  · simp [Value.cells] at hcs
    obtain ⟨rfl, rfl, rfl⟩ := hcs
    exact ⟨zs, .inr ⟨_, rfl, hl, hm, by simpa using hz, hcell, hwz⟩⟩
end
end Go.Proofs.YteopplldbcgjjaaGreatDoor.Mx

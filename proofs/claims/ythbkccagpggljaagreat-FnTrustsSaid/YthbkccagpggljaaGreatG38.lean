import Derived.Test.YthbkccagpggljaaGreatG35
import Derived.Test.YthbkccagpggljaaGreatG36
import Derived.Test.YthbkccagpggljaaGreatG37
import Derived.Test.YthbkccagpggljaaGreatG03
import Derived.Test.YthbkccagpggljaaGreatG05
import Derived.OpenShut
import Derived.ShutString
import Derived.ChangeOld
namespace Go.Proofs.YthbkccagpggljaaGreat.Mx
open Go.ChangeShapes Go.WideShapes Go.ChangeAt Go.RowKit
set_option linter.unusedVariables false
theorem bothNew (key x : Int) (l : List Int) : ∃ (nv sm : Int) (L : List Ce),
    (∀ (A : Option Addr) (cap : Nat) (w : World), l.length ≤ 5 → l.length ≤ cap → Ints w .i64 w.heap.size A l → Calls Tryz.prog 6 #[.agg #[.int .i64 key, .slice A l.length cap], .int .i64 x] w fun e w' => ∃ u, e = .returned (.tuple #[.agg #[.int .i64 nv, .int .i64 0, .int .i64 0, .int .i64 0, .int .i64 sm, .int .i64 0, .int .i64 0, .bool false], u]) ∧ CRow w' w.heap.size u L ∧ Below w.heap.size w w') ∧
    (∀ (A : Option Addr) (cap : Nat) (w : World), l.length ≤ 5 → l.length ≤ cap → Ints w .i64 w.heap.size A l → Calls Tryz.prog 7 #[.agg #[.int .i64 key, .slice A l.length cap], .int .i64 x] w fun e w' => ∃ u, e = .returned (.tuple #[.agg #[.int .i64 nv, .int .i64 0, .int .i64 0, .int .i64 0, .int .i64 sm, .int .i64 0, .int .i64 0, .bool false], u]) ∧ CRow w' w.heap.size u L ∧ Below w.heap.size w w') ∧
    L.length ≤ 8 ∧ ((firstOf key l x < 0 ∧ L = []) ∨ ∃ r : Nat, x = r ∧ r < l.length ∧ planOk key l ∧ nv = l.getD r 0 ∧ sm = sumOf key (trisNew key (upTo l r) (l.getD r 0).toNat) ∧ L = cellsNew key (upTo l r) (l.getD r 0).toNat) := by
  by_cases h : planOk key l ∧ 0 ≤ x ∧ x < l.length
  · obtain ⟨hp, h0, h1⟩ := h
    obtain ⟨r, rfl⟩ : ∃ r : Nat, x = r := ⟨x.toNat, by omega⟩
    have hr : r < l.length := by omega
    refine ⟨_, _, _, fun A cap w h5 hc hA => newIc_yes key A l cap hc r w (by omega) hA hp hr, fun A cap w h5 hc hA => specNew_yes key A l cap r w (by unfold maxLen; omega) hc hA hp hr, ?_, .inr ⟨r, rfl, hr, hp, rfl, rfl, rfl⟩⟩
    rw [cellsNew_length]
    have := hp.2.2.1 r hr
    omega
  · have hf : firstOf key l x < 0 := by rw [firstOf_no h]; decide
    exact ⟨0, 0, [], fun A cap w h5 hc hA => (newIc_no key x A l cap hc w (by omega) hA hf).mono fun e w' ⟨he, hb⟩ => ⟨_, he, World.ownsRow_nil _ _ _ _, hb⟩, fun A cap w h5 hc hA => specNew_no key x A l cap w (by unfold maxLen; omega) hc hA hf, by simp, .inl ⟨hf, rfl⟩⟩
theorem cellsNew_get (key f : Int) {n k : Nat} (h : k < n) : (cellsNew key f n).getD k (0, 0) = cellOf key (f + k) (k + 1) 0 := by
  rw [List.getD_eq_getElem?_getD]
  simp [cellsNew, h]
theorem valueNew {key a t : Int} (hk : isKey key) (ha : isAt a) (ht : isTm t) : valueIn key a (cellOf key a t 0).1 (cellOf key a t 0).2 = 0 := by
  have hv : isVal 0 := ⟨by decide, by decide⟩
  have h : isTri a t 0 := ⟨ha, ht, hv⟩
  have hc := cellOf_cell hk ha ht hv
  rw [cellOf_yes hk h] at hc ⊢
  rw [valueIn_yes hk ha hc]
  show shownOf key a t (hiddenOf key a t 0) = 0
  exact shown_hidden (by have := (hiddenOf_val hk h).1; omega)
theorem CRow.ces {w : World} {base : Nat} {A : Option Addr} {c : Nat} {L : List Ce} (h : CRow w base (.slice A L.length c) L) : Ces w w.heap.size A L := by
  obtain ⟨A', c', e, hc, -⟩ := h.reads
  injection e with e1 e2 e3
  subst e1
  exact hc
theorem behindB_zero (key : Int) (l : List Int) (x : Int) : behindB key l 0 x = false := by
  unfold behindB
  by_cases h : 0 ≤ regionOf key l x
  · obtain ⟨i, e, hi, hp, h0, h1, h2⟩ := regionOf_up h
    rw [e, firstOf_yes hp hi]
    have : ¬ (x - upTo l i < 0) := by omega
    simp [this]
  · simp [h]
set_option maxRecDepth 20000 in
set_option maxHeartbeats 16000000 in
theorem trustsLaw_calls (A : Option Addr) (l : List Int) (cap : Nat) (w : World) (hn : l.length ≤ maxLen) (hA : Ints w .u8 w.heap.size A l) :
    Calls Tryz.prog 3 #[.slice A l.length cap] w fun e w' => e = .returned (.bool true) ∧ Below w.heap.size w w' := by
  by_cases hs : 4096 < l.length
  · go_enter Tryz.func3, Tryz.ntmps3
    go_wp2_with fail
    refine (big_yes A l.length cap w hs).mono ?_; rintro e w' ⟨rfl, rfl⟩
    go_wp2_with fail
    go_ret
    exact ⟨rfl, Below.refl _ _⟩
  · have hs' : l.length ≤ 4096 := by omega
    have HN := Lib.hid hs'
    have HA := Lib.hid hA
    clear hs hn hA
    go_enter Tryz.func3, Tryz.ntmps3
    go_wp2_with fail
    refine (big_no A l.length cap w hs').mono ?_; rintro e w' ⟨rfl, rfl⟩
    go_wp2_with fail
    refine (drawNewTrust_calls A l cap w (by unfold maxLen; exact Nat.le_trans HN.out (by decide)) HA.out).mono ?_; rintro e w1 ⟨k1, A1, z1, c1, x1, rfl, i1, l1, m1, h1, b1⟩
    have K0 := Lib.hid ((Kept.refl w).below b1)
    have J0 := Lib.hid ((HA.out.below b1 (Nat.le_refl _)).more b1.size)
    have M0 := Lib.hid h1
    clear h1 b1 HA
    have K1 := Lib.hid (K0.out.put1 w1.heap.size 26 #[.int .i64 k1, .slice A1 z1.length c1] (rfl))
    have I2 := Lib.hid ((J0.out.below (box_below w1 (.cells #[.int .i64 k1, .slice A1 z1.length c1] 26)) (Nat.le_refl _)).more ((box_below w1 (.cells #[.int .i64 k1, .slice A1 z1.length c1] 26))).size)
    have I3 := Lib.hid ((M0.out.below (box_below w1 (.cells #[.int .i64 k1, .slice A1 z1.length c1] 26)) (Nat.le_refl _)).more ((box_below w1 (.cells #[.int .i64 k1, .slice A1 z1.length c1] 26))).size)
    clear K0 J0 M0
    obtain ⟨nv, sm, L, hni, hns, hL8, hcase⟩ := bothNew k1 x1 z1
    have NI := Lib.hid hni
    have NS := Lib.hid hns
    have HCASE := Lib.hid hcase
    clear hni hns hcase
    go_upto_region 4 with fail
    generalize World.alloc w1 _ = v1 at K1 I2 I3 ⊢
    obtain ⟨kc0, kf0, -⟩ := K1.out.rd
    go_wp2_with fail
    refine (NI.out A1 c1 _ l1 m1 I3.out).mono ?_; rintro e wa ⟨va, rfl, hva, ba⟩
    clear kc0 kf0
    have K4 := Lib.hid (K1.out.below (ba))
    have I5 := Lib.hid ((I2.out.below ba (Nat.le_refl _)).more (ba).size)
    have I6 := Lib.hid ((I3.out.below ba (Nat.le_refl _)).more (ba).size)
    clear K1 I2 I3
    have C7 := Lib.hid (hva)
    clear hva ba
    have K8 := Lib.hid (K4.out.put1 wa.heap.size 30 #[.int .i64 nv, .int .i64 0, .int .i64 0, .int .i64 0, .int .i64 sm, .int .i64 0, .int .i64 0, .bool false] (rfl))
    have I9 := Lib.hid ((I5.out.below (box_below wa (.cells #[.int .i64 nv, .int .i64 0, .int .i64 0, .int .i64 0, .int .i64 sm, .int .i64 0, .int .i64 0, .bool false] 30)) (Nat.le_refl _)).more ((box_below wa (.cells #[.int .i64 nv, .int .i64 0, .int .i64 0, .int .i64 0, .int .i64 sm, .int .i64 0, .int .i64 0, .bool false] 30))).size)
    have I10 := Lib.hid ((I6.out.below (box_below wa (.cells #[.int .i64 nv, .int .i64 0, .int .i64 0, .int .i64 0, .int .i64 sm, .int .i64 0, .int .i64 0, .bool false] 30)) (Nat.le_refl _)).more ((box_below wa (.cells #[.int .i64 nv, .int .i64 0, .int .i64 0, .int .i64 0, .int .i64 sm, .int .i64 0, .int .i64 0, .bool false] 30))).size)
    have C11 := Lib.hid (C7.out.below ((box_below wa (.cells #[.int .i64 nv, .int .i64 0, .int .i64 0, .int .i64 0, .int .i64 sm, .int .i64 0, .int .i64 0, .bool false] 30))))
    clear K4 I5 I6 C7
    go_upto_region 5 with fail
    generalize World.alloc wa _ = v2 at K8 I9 I10 C11 ⊢
    obtain ⟨kc0, kf0, kc1, kf1, -⟩ := K8.out.rd
    go_wp2_with fail
    refine (NS.out A1 c1 _ l1 m1 I10.out).mono ?_; rintro e wb ⟨vb, rfl, hvb, bb⟩
    clear kc0 kf0 kc1 kf1
    have K12 := Lib.hid (K8.out.below (bb))
    have I13 := Lib.hid ((I9.out.below bb (Nat.le_refl _)).more (bb).size)
    have I14 := Lib.hid ((I10.out.below bb (Nat.le_refl _)).more (bb).size)
    have C15 := Lib.hid (C11.out.below (bb))
    clear K8 I9 I10 C11
    have C16 := Lib.hid (hvb)
    clear hvb bb
    have K17 := Lib.hid (K12.out.put1 wb.heap.size 30 #[.int .i64 nv, .int .i64 0, .int .i64 0, .int .i64 0, .int .i64 sm, .int .i64 0, .int .i64 0, .bool false] (rfl))
    have I18 := Lib.hid ((I13.out.below (box_below wb (.cells #[.int .i64 nv, .int .i64 0, .int .i64 0, .int .i64 0, .int .i64 sm, .int .i64 0, .int .i64 0, .bool false] 30)) (Nat.le_refl _)).more ((box_below wb (.cells #[.int .i64 nv, .int .i64 0, .int .i64 0, .int .i64 0, .int .i64 sm, .int .i64 0, .int .i64 0, .bool false] 30))).size)
    have I19 := Lib.hid ((I14.out.below (box_below wb (.cells #[.int .i64 nv, .int .i64 0, .int .i64 0, .int .i64 0, .int .i64 sm, .int .i64 0, .int .i64 0, .bool false] 30)) (Nat.le_refl _)).more ((box_below wb (.cells #[.int .i64 nv, .int .i64 0, .int .i64 0, .int .i64 0, .int .i64 sm, .int .i64 0, .int .i64 0, .bool false] 30))).size)
    have C20 := Lib.hid (C15.out.below ((box_below wb (.cells #[.int .i64 nv, .int .i64 0, .int .i64 0, .int .i64 0, .int .i64 sm, .int .i64 0, .int .i64 0, .bool false] 30))))
    have C21 := Lib.hid (C16.out.below ((box_below wb (.cells #[.int .i64 nv, .int .i64 0, .int .i64 0, .int .i64 0, .int .i64 sm, .int .i64 0, .int .i64 0, .bool false] 30))))
    clear K12 I13 I14 C15 C16
    go_upto_region 6 with fail
    generalize World.alloc wb _ = v3 at K17 I18 I19 C20 C21 ⊢
    go_wp2_with fail
    refine (drawTrustOk_calls A l cap _ HN.out I18.out).mono ?_; rintro e wc ⟨k2, A2, z2, c2, x2, t2, rfl, i2, l2, m2, r2, h2, bc⟩
    simp only [cond_false]
    have K22 := Lib.hid (K17.out.below (bc))
    have I23 := Lib.hid ((I18.out.below bc (Nat.le_refl _)).more (bc).size)
    have I24 := Lib.hid ((I19.out.below bc (Nat.le_refl _)).more (bc).size)
    have C25 := Lib.hid (C20.out.below (bc))
    have C26 := Lib.hid (C21.out.below (bc))
    clear K17 I18 I19 C20 C21
    have I27 := Lib.hid (h2)
    clear h2 bc
    have K28 := Lib.hid (K22.out.put1 wc.heap.size 26 #[.int .i64 k2, .slice A2 z2.length c2] (rfl))
    have I29 := Lib.hid ((I23.out.below (box_below wc (.cells #[.int .i64 k2, .slice A2 z2.length c2] 26)) (Nat.le_refl _)).more ((box_below wc (.cells #[.int .i64 k2, .slice A2 z2.length c2] 26))).size)
    have I30 := Lib.hid ((I24.out.below (box_below wc (.cells #[.int .i64 k2, .slice A2 z2.length c2] 26)) (Nat.le_refl _)).more ((box_below wc (.cells #[.int .i64 k2, .slice A2 z2.length c2] 26))).size)
    have C31 := Lib.hid (C25.out.below ((box_below wc (.cells #[.int .i64 k2, .slice A2 z2.length c2] 26))))
    have C32 := Lib.hid (C26.out.below ((box_below wc (.cells #[.int .i64 k2, .slice A2 z2.length c2] 26))))
    have I33 := Lib.hid ((I27.out.below (box_below wc (.cells #[.int .i64 k2, .slice A2 z2.length c2] 26)) (Nat.le_refl _)).more ((box_below wc (.cells #[.int .i64 k2, .slice A2 z2.length c2] 26))).size)
    clear K22 I23 I24 C25 C26 I27
    have K34 := Lib.hid (K28.out.put1 (wc.heap.size + 1) 30 #[.int .i64 t2.clock, .int .i64 t2.epoch, .int .i64 t2.cursor, .int .i64 t2.read, .int .i64 t2.written, .int .i64 t2.nread, .int .i64 t2.nwritten, .bool t2.failed] (by simp))
    have I35 := Lib.hid ((I29.out.below (box_below (wc.alloc (.cells #[.int .i64 k2, .slice A2 z2.length c2] 26)) (.cells #[.int .i64 t2.clock, .int .i64 t2.epoch, .int .i64 t2.cursor, .int .i64 t2.read, .int .i64 t2.written, .int .i64 t2.nread, .int .i64 t2.nwritten, .bool t2.failed] 30)) (Nat.le_refl _)).more ((box_below (wc.alloc (.cells #[.int .i64 k2, .slice A2 z2.length c2] 26)) (.cells #[.int .i64 t2.clock, .int .i64 t2.epoch, .int .i64 t2.cursor, .int .i64 t2.read, .int .i64 t2.written, .int .i64 t2.nread, .int .i64 t2.nwritten, .bool t2.failed] 30))).size)
    have I36 := Lib.hid ((I30.out.below (box_below (wc.alloc (.cells #[.int .i64 k2, .slice A2 z2.length c2] 26)) (.cells #[.int .i64 t2.clock, .int .i64 t2.epoch, .int .i64 t2.cursor, .int .i64 t2.read, .int .i64 t2.written, .int .i64 t2.nread, .int .i64 t2.nwritten, .bool t2.failed] 30)) (Nat.le_refl _)).more ((box_below (wc.alloc (.cells #[.int .i64 k2, .slice A2 z2.length c2] 26)) (.cells #[.int .i64 t2.clock, .int .i64 t2.epoch, .int .i64 t2.cursor, .int .i64 t2.read, .int .i64 t2.written, .int .i64 t2.nread, .int .i64 t2.nwritten, .bool t2.failed] 30))).size)
    have C37 := Lib.hid (C31.out.below ((box_below (wc.alloc (.cells #[.int .i64 k2, .slice A2 z2.length c2] 26)) (.cells #[.int .i64 t2.clock, .int .i64 t2.epoch, .int .i64 t2.cursor, .int .i64 t2.read, .int .i64 t2.written, .int .i64 t2.nread, .int .i64 t2.nwritten, .bool t2.failed] 30))))
    have C38 := Lib.hid (C32.out.below ((box_below (wc.alloc (.cells #[.int .i64 k2, .slice A2 z2.length c2] 26)) (.cells #[.int .i64 t2.clock, .int .i64 t2.epoch, .int .i64 t2.cursor, .int .i64 t2.read, .int .i64 t2.written, .int .i64 t2.nread, .int .i64 t2.nwritten, .bool t2.failed] 30))))
    have I39 := Lib.hid ((I33.out.below (box_below (wc.alloc (.cells #[.int .i64 k2, .slice A2 z2.length c2] 26)) (.cells #[.int .i64 t2.clock, .int .i64 t2.epoch, .int .i64 t2.cursor, .int .i64 t2.read, .int .i64 t2.written, .int .i64 t2.nread, .int .i64 t2.nwritten, .bool t2.failed] 30)) (Nat.le_refl _)).more ((box_below (wc.alloc (.cells #[.int .i64 k2, .slice A2 z2.length c2] 26)) (.cells #[.int .i64 t2.clock, .int .i64 t2.epoch, .int .i64 t2.cursor, .int .i64 t2.read, .int .i64 t2.written, .int .i64 t2.nread, .int .i64 t2.nwritten, .bool t2.failed] 30))).size)
    clear K28 I29 I30 C31 C32 I33
    go_upto_region 7 with fail
    generalize World.alloc (World.alloc wc _) _ = v4 at K34 I35 I36 C37 C38 I39 ⊢
    go_wp2_with fail
    refine (drawBehind_calls A l cap _ HN.out I35.out).mono ?_; rintro e wd ⟨k3, A3, z3, c3, x3, t3, rfl, i3, l3, m3, r3, h3, bd⟩
    simp only [cond_true]
    have K40 := Lib.hid (K34.out.below (bd))
    have I41 := Lib.hid ((I35.out.below bd (Nat.le_refl _)).more (bd).size)
    have I42 := Lib.hid ((I36.out.below bd (Nat.le_refl _)).more (bd).size)
    have C43 := Lib.hid (C37.out.below (bd))
    have C44 := Lib.hid (C38.out.below (bd))
    have I45 := Lib.hid ((I39.out.below bd (Nat.le_refl _)).more (bd).size)
    clear K34 I35 I36 C37 C38 I39
    have I46 := Lib.hid (h3)
    clear h3 bd
    have K47 := Lib.hid (K40.out.put1 wd.heap.size 26 #[.int .i64 k3, .slice A3 z3.length c3] (rfl))
    have I48 := Lib.hid ((I41.out.below (box_below wd (.cells #[.int .i64 k3, .slice A3 z3.length c3] 26)) (Nat.le_refl _)).more ((box_below wd (.cells #[.int .i64 k3, .slice A3 z3.length c3] 26))).size)
    have I49 := Lib.hid ((I42.out.below (box_below wd (.cells #[.int .i64 k3, .slice A3 z3.length c3] 26)) (Nat.le_refl _)).more ((box_below wd (.cells #[.int .i64 k3, .slice A3 z3.length c3] 26))).size)
    have C50 := Lib.hid (C43.out.below ((box_below wd (.cells #[.int .i64 k3, .slice A3 z3.length c3] 26))))
    have C51 := Lib.hid (C44.out.below ((box_below wd (.cells #[.int .i64 k3, .slice A3 z3.length c3] 26))))
    have I52 := Lib.hid ((I45.out.below (box_below wd (.cells #[.int .i64 k3, .slice A3 z3.length c3] 26)) (Nat.le_refl _)).more ((box_below wd (.cells #[.int .i64 k3, .slice A3 z3.length c3] 26))).size)
    have I53 := Lib.hid ((I46.out.below (box_below wd (.cells #[.int .i64 k3, .slice A3 z3.length c3] 26)) (Nat.le_refl _)).more ((box_below wd (.cells #[.int .i64 k3, .slice A3 z3.length c3] 26))).size)
    clear K40 I41 I42 C43 C44 I45 I46
    have K54 := Lib.hid (K47.out.put1 (wd.heap.size + 1) 30 #[.int .i64 t3.clock, .int .i64 t3.epoch, .int .i64 t3.cursor, .int .i64 t3.read, .int .i64 t3.written, .int .i64 t3.nread, .int .i64 t3.nwritten, .bool t3.failed] (by simp))
    have I55 := Lib.hid ((I48.out.below (box_below (wd.alloc (.cells #[.int .i64 k3, .slice A3 z3.length c3] 26)) (.cells #[.int .i64 t3.clock, .int .i64 t3.epoch, .int .i64 t3.cursor, .int .i64 t3.read, .int .i64 t3.written, .int .i64 t3.nread, .int .i64 t3.nwritten, .bool t3.failed] 30)) (Nat.le_refl _)).more ((box_below (wd.alloc (.cells #[.int .i64 k3, .slice A3 z3.length c3] 26)) (.cells #[.int .i64 t3.clock, .int .i64 t3.epoch, .int .i64 t3.cursor, .int .i64 t3.read, .int .i64 t3.written, .int .i64 t3.nread, .int .i64 t3.nwritten, .bool t3.failed] 30))).size)
    have I56 := Lib.hid ((I49.out.below (box_below (wd.alloc (.cells #[.int .i64 k3, .slice A3 z3.length c3] 26)) (.cells #[.int .i64 t3.clock, .int .i64 t3.epoch, .int .i64 t3.cursor, .int .i64 t3.read, .int .i64 t3.written, .int .i64 t3.nread, .int .i64 t3.nwritten, .bool t3.failed] 30)) (Nat.le_refl _)).more ((box_below (wd.alloc (.cells #[.int .i64 k3, .slice A3 z3.length c3] 26)) (.cells #[.int .i64 t3.clock, .int .i64 t3.epoch, .int .i64 t3.cursor, .int .i64 t3.read, .int .i64 t3.written, .int .i64 t3.nread, .int .i64 t3.nwritten, .bool t3.failed] 30))).size)
    have C57 := Lib.hid (C50.out.below ((box_below (wd.alloc (.cells #[.int .i64 k3, .slice A3 z3.length c3] 26)) (.cells #[.int .i64 t3.clock, .int .i64 t3.epoch, .int .i64 t3.cursor, .int .i64 t3.read, .int .i64 t3.written, .int .i64 t3.nread, .int .i64 t3.nwritten, .bool t3.failed] 30))))
    have C58 := Lib.hid (C51.out.below ((box_below (wd.alloc (.cells #[.int .i64 k3, .slice A3 z3.length c3] 26)) (.cells #[.int .i64 t3.clock, .int .i64 t3.epoch, .int .i64 t3.cursor, .int .i64 t3.read, .int .i64 t3.written, .int .i64 t3.nread, .int .i64 t3.nwritten, .bool t3.failed] 30))))
    have I59 := Lib.hid ((I52.out.below (box_below (wd.alloc (.cells #[.int .i64 k3, .slice A3 z3.length c3] 26)) (.cells #[.int .i64 t3.clock, .int .i64 t3.epoch, .int .i64 t3.cursor, .int .i64 t3.read, .int .i64 t3.written, .int .i64 t3.nread, .int .i64 t3.nwritten, .bool t3.failed] 30)) (Nat.le_refl _)).more ((box_below (wd.alloc (.cells #[.int .i64 k3, .slice A3 z3.length c3] 26)) (.cells #[.int .i64 t3.clock, .int .i64 t3.epoch, .int .i64 t3.cursor, .int .i64 t3.read, .int .i64 t3.written, .int .i64 t3.nread, .int .i64 t3.nwritten, .bool t3.failed] 30))).size)
    have I60 := Lib.hid ((I53.out.below (box_below (wd.alloc (.cells #[.int .i64 k3, .slice A3 z3.length c3] 26)) (.cells #[.int .i64 t3.clock, .int .i64 t3.epoch, .int .i64 t3.cursor, .int .i64 t3.read, .int .i64 t3.written, .int .i64 t3.nread, .int .i64 t3.nwritten, .bool t3.failed] 30)) (Nat.le_refl _)).more ((box_below (wd.alloc (.cells #[.int .i64 k3, .slice A3 z3.length c3] 26)) (.cells #[.int .i64 t3.clock, .int .i64 t3.epoch, .int .i64 t3.cursor, .int .i64 t3.read, .int .i64 t3.written, .int .i64 t3.nread, .int .i64 t3.nwritten, .bool t3.failed] 30))).size)
    clear K47 I48 I49 C50 C51 I52 I53
    go_upto_region 8 with fail
    generalize World.alloc (World.alloc wd _) _ = v5 at K54 I55 I56 C57 C58 I59 I60 ⊢
    have P1 := Lib.hid (fun u (hu : Below v5.heap.size v5 u) => (likeV_same va vb L _ _ u (by omega) (C57.out.below hu) (C58.out.below hu)).mono (fun e w' ⟨he, hb⟩ => (⟨he, hu.trans (hb.mono hu.size)⟩ : _ ∧ Below v5.heap.size v5 w')))
    have P2 := Lib.hid (fun u (hu : Below v5.heap.size v5 u) => (implTrustOk_calls k2 x2 A2 z2 c2 t2.clock t2.epoch t2.cursor t2.read t2.written t2.nread t2.nwritten t2.failed u (by omega) m2 ((I59.out.below hu (Nat.le_refl _)).more hu.size)).mono (fun e w' ⟨he, hb⟩ => (⟨he, hu.trans (hb.mono hu.size)⟩ : _ ∧ Below v5.heap.size v5 w')))
    have P3 := Lib.hid (fun u (hu : Below v5.heap.size v5 u) => (specTrustOk_calls k2 x2 A2 z2 c2 t2.clock t2.epoch t2.cursor t2.read t2.written t2.nread t2.nwritten t2.failed u (by unfold maxLen; omega) ((I59.out.below hu (Nat.le_refl _)).more hu.size)).mono (fun e w' ⟨he, hb⟩ => (⟨he, hu.trans (hb.mono hu.size)⟩ : _ ∧ Below v5.heap.size v5 w')))
    have P4 := Lib.hid (fun u (hu : Below v5.heap.size v5 u) => (implBehind_calls k3 x3 A3 z3 c3 t3.clock t3.epoch t3.cursor t3.read t3.written t3.nread t3.nwritten t3.failed u (by unfold maxLen; omega) m3 ((I60.out.below hu (Nat.le_refl _)).more hu.size) i3).mono (fun e w' ⟨he, hb⟩ => (⟨he, hu.trans (hb.mono hu.size)⟩ : _ ∧ Below v5.heap.size v5 w')))
    have P5 := Lib.hid (fun u (hu : Below v5.heap.size v5 u) => (specBehind_calls k3 x3 A3 z3 c3 t3.clock t3.epoch t3.cursor t3.read t3.written t3.nread t3.nwritten t3.failed u (by unfold maxLen; omega) m3 ((I60.out.below hu (Nat.le_refl _)).more hu.size) i3).mono (fun e w' ⟨he, hb⟩ => (⟨he, hu.trans (hb.mono hu.size)⟩ : _ ∧ Below v5.heap.size v5 w')))
    generalize trustB k2 z2 x2 ⟨t2.clock, t2.epoch, t2.cursor, t2.read, t2.written, t2.nread, t2.nwritten, t2.failed⟩ = bT at P2 P3
    generalize behindB k3 z3 t3.cursor x3 = bB at P4 P5
    have hm := truGuard
    refine wp_region_class (C := fun u => Below v5.heap.size v5 u) (by kernel_rfl) (by kernel_rfl) (Below.refl _ _).drew ?_
    iterate 31 (first
      | go_big_quiet_skip
      | (go_big_quiet_want
         go_big_quiet_op
         first
           | go_big_quiet_on
           | (apply Exists.intro
              refine ⟨fun u hu => ?_, ?_⟩
              · first
                  | with_reducible rfl
                  | (go_at_call 10; exact P1.out u hu)
                  | (go_at_call 11; exact P2.out u hu)
                  | (go_at_call 12; exact P3.out u hu)
                  | (go_at_call 13; exact P4.out u hu)
                  | (go_at_call 14; exact P5.out u hu)
                  | (obtain ⟨kc0, kf0, kc1, kf1, kc2, kf2, kc3, kf3, kc4, kf4, kc5, kf5, kc6, kf6, -⟩ := (K54.out.below hu).rd; go_simp; first | done | with_reducible rfl)
              go_big_quiet_on)))
    refine wpQuiet_nil ?_
    intro wz hz
    clear P1 P2 P3 P4 P5
    have K61 := Lib.hid (K54.out.below (hz))
    have I62 := Lib.hid ((I55.out.below hz (Nat.le_refl _)).more (hz).size)
    have I63 := Lib.hid ((I56.out.below hz (Nat.le_refl _)).more (hz).size)
    have C64 := Lib.hid (C57.out.below (hz))
    have C65 := Lib.hid (C58.out.below (hz))
    have I66 := Lib.hid ((I59.out.below hz (Nat.le_refl _)).more (hz).size)
    have I67 := Lib.hid ((I60.out.below hz (Nat.le_refl _)).more (hz).size)
    clear K54 I55 I56 C57 C58 I59 I60
    clear hz
    obtain ⟨kc0, kf0, kc1, kf1, kc2, kf2, kc3, kf3, kc4, kf4, kc5, kf5, kc6, kf6, -⟩ := K61.out.rd
    go_wp2_with fail
    refine (specFirst_calls k1 x1 A1 z1 c1 _ (by unfold maxLen; omega) m1 I63.out).mono ?_; rintro e wf ⟨rfl, bf⟩
    clear kc0 kf0 kc1 kf1 kc2 kf2 kc3 kf3 kc4 kf4 kc5 kf5 kc6 kf6
    have K68 := Lib.hid (K61.out.below (bf))
    have I69 := Lib.hid ((I62.out.below bf (Nat.le_refl _)).more (bf).size)
    have I70 := Lib.hid ((I63.out.below bf (Nat.le_refl _)).more (bf).size)
    have C71 := Lib.hid (C64.out.below (bf))
    have C72 := Lib.hid (C65.out.below (bf))
    have I73 := Lib.hid ((I66.out.below bf (Nat.le_refl _)).more (bf).size)
    have I74 := Lib.hid ((I67.out.below bf (Nat.le_refl _)).more (bf).size)
    clear K61 I62 I63 C64 C65 I66 I67
    clear bf
    obtain ⟨Aa, ca, rfl, -, -⟩ := C71.out.reads
    obtain ⟨hneg, hLn⟩ | ⟨r, hxr, hr, hp, hnv, hsm, hLc⟩ := HCASE.out
    · subst hLn
      generalize firstOf k1 z1 x1 = f at hneg ⊢
      go_wp2_with fail
      go_ret
      exact ⟨rfl, K68.out.1⟩
    · subst hxr
      have hfy := firstOf_yes hp hr
      have hbd := region_bd hp hr
      have HTB := Lib.hid (show trustB k1 z1 (r : Int) ⟨nv, 0, 0, 0, sm, 0, 0, false⟩ = true from trustB_yes (by rw [hnv, hsm]; exact newTru_ok hp hr))
      have FY := Lib.hid (fun (u : World) (h : Ints u .i64 u.heap.size A1 z1) => specFirst_calls k1 r A1 z1 c1 u (by unfold maxLen; omega) m1 h)
      have HM1 := Lib.hid (I70.out r hr)
      rw [hfy] at FY ⊢
      have hkey := hp.1
      obtain ⟨n, hvn⟩ : ∃ n : Nat, z1.getD r 0 = n := ⟨(z1.getD r 0).toNat, by omega⟩
      rw [hvn] at hbd hsm hLc HM1
      rw [Int.toNat_natCast] at hbd hsm hLc
      obtain ⟨f, hff⟩ : ∃ f, f = upTo z1 r := ⟨_, rfl⟩
      rw [← hff] at hbd hsm hLc FY ⊢
      obtain ⟨hb1, hb2, hb3, hb4⟩ := hbd
      have hlen : L.length = n := by rw [hLc, cellsNew_length]
      have HLC := Lib.hid hLc
      have HSM := Lib.hid hsm
      have HLEN := Lib.hid hlen
      have HP := Lib.hid hp
      have HR := Lib.hid hr
      have HKEY := Lib.hid hkey
      have hln : L.length ≤ 8 := by omega
      have hf0 : ¬ f < 0 := by omega
      have hrz : (r : Int) < z1.length := by omega
      have hr0 : (0 : Int) ≤ r := by omega
      clear hLc hsm hlen hp hr hkey hff hvn hfy hnv HCASE
      obtain ⟨it, hti, htz0, htz1, htz2⟩ := info_parts3
      obtain ⟨kc0, kf0, kc1, kf1, kc2, kf2, kc3, kf3, kc4, kf4, kc5, kf5, kc6, kf6, -⟩ := K68.out.rd
      go_wp2_with fail
      skip
      clear kc0 kf0 kc1 kf1 kc2 kf2 kc3 kf3 kc4 kf4 kc5 kf5 kc6 kf6
      have CES := Lib.hid (CRow.ces C71.out)
      have TR0 := Lib.hid (TRow.made wf wf.heap.size (Nat.le_refl _))
      have WB0 := Lib.hid (box_below wf (.cells #[] 44))
      go_loopw [15, 16] (fun v i u => ∃ (k : Nat) (p15 : Value), p15 = v ∧ k ≤ L.length ∧ i = .int .i64 k ∧ TRow u wf.heap.size v (trisNew k1 f k) ∧ Below wf.heap.size wf u) (fun _ i _ => L.length - (intOf i).toNat)
      case atStart => exact ⟨0, _, rfl, Nat.zero_le _, rfl, TR0.out, WB0.out⟩
      case round =>
        obtain ⟨k, p15, rfl, hk, rfl, htr, hbl⟩ := hrel
        have TT := Lib.hid htr
        have HB := Lib.hid hbl
        have KB := Lib.hid (K68.out.below hbl)
        have MB := Lib.hid ((I70.out.below hbl (Nat.le_refl _)).more hbl.size)
        clear htr hbl
        by_cases hlt : k < L.length
        · skip
          have hlt' : (k : Int) < L.length := by omega
          have hk0 : (0 : Int) ≤ k := by omega
          have hw1 : IntKind.i64.wrap (f + k) = f + k := IntWalk.i64_in _ (by omega)
          obtain ⟨bc, oc, rfl, hbc, hc0, hc1⟩ := CES.out k hlt
          have hkn : k < n := by have := HLEN.out; omega
          rw [show L.getD k (0, 0) = cellOf k1 (f + k) (k + 1) 0 from by rw [HLC.out]; exact cellsNew_get k1 f hkn] at hc0 hc1
          have hst := trisNew_succ k1 f k
          have hvn := valueNew (key := k1) (a := f + k) (t := (k : Int) + 1) HKEY.out ⟨by omega, by omega⟩ ⟨by omega, by omega⟩
          generalize (cellOf k1 (f + k) (k + 1) 0).1 = v0 at hc0 hst hvn
          generalize (cellOf k1 (f + k) (k + 1) 0).2 = v1 at hc1 hst hvn
          have ct := fun u => specTripleIn_calls (f + k) v0 v1 u
          have TI := Lib.hid (tripleIn_i64 (f + k) v0 v1)
          generalize hti3 : tripleIn (f + k) v0 v1 = t3 at ct hst TI
          clear hti3
          obtain ⟨ta, tb, tc⟩ := t3
          have HST := Lib.hid hst
          have CT := Lib.hid ct
          have VI := Lib.hid (fun u => (by rw [← hvn]; exact specValueIn_calls k1 (f + k) v0 v1 u : Calls Tryz.prog 17 #[.int .i64 k1, .int .i64 (f + k), .agg #[.int .i64 v0, .int .i64 v1]] u fun e w' => e = .returned (.int .i64 0) ∧ Below u.heap.size u w'))
          clear hst hvn ct hkn
          obtain ⟨kc0, kf0, kc1, kf1, kc2, kf2, kc3, kf3, kc4, kf4, kc5, kf5, kc6, kf6, -⟩ := KB.out.rd
          go_wp2_with fail
          refine (FY.out _ MB.out).mono ?_; rintro e wg ⟨rfl, bg⟩
          have HB2 := Lib.hid (HB.out.trans (bg.mono HB.out.size))
          have TT2 := Lib.hid (TT.out.below bg)
          have g0 := (HB2.out.cell (p := ⟨bc, oc + k * 2, none⟩) hbc).trans hc0
          have g1 := (HB2.out.cell (p := ⟨bc, oc + k * 2 + 1, none⟩) hbc).trans hc1
          clear bg TT HB KB MB
          clear kc0 kf0 kc1 kf1 kc2 kf2 kc3 kf3 kc4 kf4 kc5 kf5 kc6 kf6
          go_wp2_with fail
          refine (CT.out _).mono ?_; rintro e wd_ ⟨rfl, bd⟩
          have HB3 := Lib.hid (HB2.out.trans (bd.mono HB2.out.size))
          have T4 := Lib.hid ((TT2.out.below bd).alloc (.cells #[.int .i64 ta, .int .i64 tb, .int .i64 tc] 44))
          have O9 := Lib.hid (fun g (h : p15.ownBlock = some g) => World.ownsRow.lt (TT2.out.below bd).1 g h)
          have lt_ := trisNew_length k1 f k
          have zd := HB3.out.size
          clear bd g0 g1 HB2 TT2 CT
          go_wp2_with (at_builtin; refine wpList_append_lies _ rfl _ _ 42 rfl wf.heap.size 44 it (.agg #[.int .i64 0, .int .i64 0, .int .i64 0]) 3 24 Tryz.underlying42 hti htz0 htz1 htz2 rfl (by omega) p15 (trisNew k1 f k).length (flatT (trisNew k1 f k)) rfl T4.out.1 ⟨wd_.heap.size, 0, none⟩ 1 1 [.int .i64 ta, .int .i64 tb, .int .i64 tc] rfl rfl (World.news_of_block (cs := #[.int .i64 ta, .int .i64 tb, .int .i64 tc]) (t := 44) (fr := (0, 0)) (heap_alloc_new wd_ _)) (by simp [Value.oneCell']) (by omega) ?m1 ?m2 ?m3 (wd_.heap.size + 1) ?m4 ?_)
          case m1 => unfold maxLen; omega
          case m2 => omega
          case m3 => simp; omega
          case m4 => simp
          intro g5 c5 we hown hgrow hat hlt3
          have HE := Lib.hid ((HB3.out.trans ((box_below wd_ (.cells #[.int .i64 ta, .int .i64 tb, .int .i64 tc] 44)).mono HB3.out.size)).trans (gr_below hgrow (by simp; omega) (fun g h => (O9.out g h).1)))
          have T5 := Lib.hid (TRow.snoc T4.out.2 TI.out.1 TI.out.2.1 TI.out.2.2 (by rw [lt_]; exact hown))
          clear hown hgrow hat T4 O9 HB3
          have KE := Lib.hid (K68.out.below HE.out)
          have ME := Lib.hid ((I70.out.below HE.out (Nat.le_refl _)).more HE.out.size)
          go_upto_region 18 with fail
          have Q1 := Lib.hid (fun u (hu : Below we.heap.size we u) => (VI.out u).mono (fun e w' ⟨he, hb⟩ => (⟨he, hu.trans (hb.mono hu.size)⟩ : _ ∧ Below we.heap.size we w')))
          have Q2 := Lib.hid (fun u (hu : Below we.heap.size we u) => (show Calls Tryz.prog 13 #[.agg #[.int .i64 k1, .slice A1 z1.length c1], .agg #[.int .i64 nv, .int .i64 0, .int .i64 0, .int .i64 0, .int .i64 sm, .int .i64 0, .int .i64 0, .bool false], .int .i64 (f + k)] u fun e w' => e = .returned (.bool false) ∧ Below we.heap.size we w' from by have h := implBehind_calls k1 (f + k) A1 z1 c1 nv 0 0 0 sm 0 0 false u (by unfold maxLen; omega) m1 ((ME.out.below hu (Nat.le_refl _)).more hu.size) ⟨by omega, by omega⟩; rw [behindB_zero] at h; exact h.mono (fun e w' ⟨he, hb⟩ => (⟨he, hu.trans (hb.mono hu.size)⟩ : _ ∧ Below we.heap.size we w'))))
          refine wp_region_class (C := fun u => Below we.heap.size we u) (by kernel_rfl) (by kernel_rfl) (Below.refl _ _).drew ?_
          iterate 15 (first
            | go_big_quiet_skip
            | (go_big_quiet_want
               go_big_quiet_op
               first
                 | go_big_quiet_on
                 | (apply Exists.intro
                    refine ⟨fun u hu => ?_, ?_⟩
                    · first
                        | with_reducible rfl
                        | (go_at_call 17; exact Q1.out u hu)
                        | (go_at_call 13; exact Q2.out u hu)
                        | (obtain ⟨kc0, kf0, kc1, kf1, kc2, kf2, kc3, kf3, kc4, kf4, kc5, kf5, kc6, kf6, -⟩ := (KE.out.below hu).rd; have f0 := ((HE.out.trans (hu.mono HE.out.size)).cell (p := ⟨bc, oc + k * 2, none⟩) hbc).trans hc0; have f1 := ((HE.out.trans (hu.mono HE.out.size)).cell (p := ⟨bc, oc + k * 2 + 1, none⟩) hbc).trans hc1; go_simp; first | done | with_reducible rfl)
                    go_big_quiet_on)))
          refine wpQuiet_nil ?_
          intro wz hz
          have HZ := Lib.hid (HE.out.trans (hz.mono HE.out.size))
          have TZ := Lib.hid (T5.out.below hz)
          clear hz Q1 Q2 KE ME HE T5 hc0 hc1
          go_wp2_with fail
          go_roundw
          case rel => exact ⟨k + 1, _, rfl, by omega, by go_num, by rw [HST.out]; exact TZ.out, HZ.out⟩
          case measure => simp [intOf]; omega
        · obtain rfl : k = L.length := by omega
          have lt_ := trisNew_length k1 f L.length
          obtain ⟨Qt, ct, hqt, -⟩ := TT.out.lies
          rw [lt_] at hqt
          subst hqt
          obtain ⟨bq, oq, rfl, hbq, hcq⟩ := HM1.out
          rw [← HLEN.out] at hcq
          have hse : sumOf k1 (trisNew k1 f L.length) = sm := by rw [HLEN.out]; exact HSM.out.symm
          have Q1 := Lib.hid (fun u (hu : Below wr.heap.size wr u) => ((show Calls Tryz.prog 11 #[.agg #[.int .i64 k1, .slice (some ⟨bq, oq, none⟩) z1.length c1], .int .i64 r, .agg #[.int .i64 nv, .int .i64 0, .int .i64 0, .int .i64 0, .int .i64 sm, .int .i64 0, .int .i64 0, .bool false]] u fun e w' => e = .returned (.bool true) ∧ Below u.heap.size u w' from by have h := implTrustOk_calls k1 r (some ⟨bq, oq, none⟩) z1 c1 nv 0 0 0 sm 0 0 false u (by omega) m1 ((MB.out.below hu (Nat.le_refl _)).more hu.size); rw [HTB.out] at h; exact h)).mono (fun e w' ⟨he, hb⟩ => (⟨he, hu.trans (hb.mono hu.size)⟩ : _ ∧ Below wr.heap.size wr w')))
          have Q2 := Lib.hid (fun u (hu : Below wr.heap.size wr u) => ((show Calls Tryz.prog 18 #[.int .i64 k1, .slice Qt L.length ct] u fun e w' => e = .returned (.int .i64 sm) ∧ Below u.heap.size u w' from by obtain ⟨Q2, c2, e2, hl2⟩ := TRow.lies (TT.out.below hu); rw [lt_] at e2; injection e2 with e2 e3 e4; subst e2; have hc := specSum_calls k1 Qt (trisNew k1 f L.length) ct u (by rw [lt_]; unfold maxLen; omega) hl2.tris; rw [lt_, hse] at hc; exact hc)).mono (fun e w' ⟨he, hb⟩ => (⟨he, hu.trans (hb.mono hu.size)⟩ : _ ∧ Below wr.heap.size wr w')))
          clear hse lt_
          go_upto_region 20 with fail
          refine wp_region_class (C := fun u => Below wr.heap.size wr u) (by kernel_rfl) (by kernel_rfl) (Below.refl _ _).drew ?_
          iterate 24 (first
            | go_big_quiet_skip
            | (go_big_quiet_want
               go_big_quiet_op
               first
                 | go_big_quiet_on
                 | (apply Exists.intro
                    refine ⟨fun u hu => ?_, ?_⟩
                    · first
                        | with_reducible rfl
                        | (go_at_call 11; exact Q1.out u hu)
                        | (go_at_call 18; exact Q2.out u hu)
                        | (obtain ⟨kc0, kf0, kc1, kf1, kc2, kf2, kc3, kf3, kc4, kf4, kc5, kf5, kc6, kf6, -⟩ := (KB.out.below hu).rd; have f0 := ((HB.out.trans (hu.mono HB.out.size)).cell (p := ⟨bq, oq + r, none⟩) hbq).trans hcq; go_simp; first | done | with_reducible rfl)
                    go_big_quiet_on)))
          refine wpQuiet_nil ?_
          intro wz hz
          have HZ := Lib.hid (K68.out.below (HB.out.trans (hz.mono HB.out.size))).1
          clear hz Q1 Q2
          go_wp2_with fail
          go_ret
          exact ⟨rfl, HZ.out⟩
end Go.Proofs.YthbkccagpggljaaGreat.Mx
namespace Go.Proofs.YthbkccagpggljaaGreat.Mx
open Go.ChangeShapes Go.WideShapes Go.ChangeAt Go.RowKit
set_option linter.unusedVariables false
def IsRow (k : IntKind) (w : World) (a : Option Addr) (len cap : Nat) (zs : List Int) : Prop :=
  (a = none ∧ len = 0 ∧ cap = 0 ∧ zs = []) ∨
  ∃ x, a = some x ∧ len ≤ cap ∧ cap ≤ maxLen ∧ zs.length = cap ∧ (∀ i, i < zs.length → w.cell? (x.add i) = some (.int k (zs.getD i 0))) ∧ ∀ n ∈ zs, (Lit.int k n).wf = true
section
variable {H : Type} {enc : TypeId × Value → H} {P : Program} {w : World} {base : Nat} {spare : Nat → Bool} {held : Bool}
theorem row_of_trod {t e : TypeId} {k : IntKind} {a : Option Addr} {len cap : Nat} {d : DataW H} {p : List MemPlace} (ht : P.underlying t = some (.slice e)) (he : P.underlying e = some (.int k)) (hc : P.cellsOf e = 1)
    (h : DataW.Trod enc P w base (fun _ => true) held t (.slice a len cap) d p) : ∃ zs, IsRow k w a len cap zs := by
  obtain ⟨fuel, hf⟩ := h
  rcases open_ints ht he hc hf with ⟨hcs, _⟩ | ⟨x, l, c, zs, hcs, _, hl, hm, hz, _, hcell, hwz⟩
  · simp [Value.cells] at hcs
    obtain ⟨rfl, rfl, rfl⟩ := hcs
    exact ⟨[], .inl ⟨rfl, rfl, rfl, rfl⟩⟩
  · simp [Value.cells] at hcs
    obtain ⟨rfl, rfl, rfl⟩ := hcs
    exact ⟨zs, .inr ⟨_, rfl, hl, hm, by simpa using hz, hcell, hwz⟩⟩
end
end Go.Proofs.YthbkccagpggljaaGreat.Mx

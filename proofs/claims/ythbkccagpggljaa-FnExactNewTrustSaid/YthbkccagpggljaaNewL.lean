/- THE WALK OF laws.FnExactNewTrust, GIVEN WHAT THE CODE'S NewTrust ANSWERS. -/
import Derived.Test.YthbkccagpggljaaMarkA
import Derived.Test.YthbkccagpggljaaTrustC
import Derived.Test.YthbkccagpggljaaNewS
import Derived.Test.YthbkccagpggljaaRd
namespace Go.Proofs.Ythbkccagpggljaa.Mx
open Go.ChangeShapes Go.WideShapes Go.ChangeAt Go.RowKit
set_option linter.unusedVariables false

/-- A list of n cells that is marked from 1 on, nil let in. -/
def HeldV (w : World) (v : Value) (n : Nat) : Prop := (∃ g c, v = .slice (some ⟨g, 0, none⟩) n c ∧ g < w.heap.size ∧ MarkC w g n 1) ∨ (n = 0 ∧ ∃ A c, v = .slice A 0 c)
theorem HeldV.below {u w : World} {v : Value} {n : Nat} (h : HeldV u v n) (hb : Below u.heap.size u w) : HeldV w v n := by
  rcases h with ⟨g, c, e, hg, hm⟩ | h
  · exact .inl ⟨g, c, e, Nat.lt_of_lt_of_le hg hb.size, hm.block (hb.block g hg)⟩
  · exact .inr h
theorem markCellS_nil (A : Option Addr) (c : Nat) (w : World) : Calls Try.prog 12 #[.slice A 0 c, .int .i64 1] w fun e w' => e = .returned (.int .i64 1) ∧ w = w' := by
  go_enter Try.func12, Try.ntmps12
  go_wp2_with fail
  go_loop [5, 1] (fun i t => i = .int .i64 0 ∧ t = .int .i64 1) (fun _ _ => 0)
  case atStart => exact ⟨rfl, rfl⟩
  case round =>
    obtain ⟨rfl, rfl⟩ := hrel
    go_wp2_with fail
    go_ret
    exact ⟨rfl, rfl⟩
theorem heldCellS_nil (A : Option Addr) (c : Nat) (w : World) : Calls Try.prog 13 #[.slice A 0 c, .int .i64 1] w fun e w' => e = .returned (.int .i64 1) ∧ w = w' := by
  go_enter Try.func13, Try.ntmps13
  go_wp2_with fail
  go_loop [5, 1] (fun i t => i = .int .i64 0 ∧ t = .int .i64 1) (fun _ _ => 0)
  case atStart => exact ⟨rfl, rfl⟩
  case round =>
    obtain ⟨rfl, rfl⟩ := hrel
    go_wp2_with fail
    go_ret
    exact ⟨rfl, rfl⟩
/-- laws.markCellS, of a list that is the call's own. -/
theorem markV_calls (v : Value) (L : List Ce) (base : Nat) (w : World) (hn : L.length ≤ 1048576) (hr : CRow w base v L) :
    Calls Try.prog 12 #[v, .int .i64 1] w fun e w' => e = .returned (.int .i64 (1 + 2 * L.length)) ∧ HeldV w' v L.length ∧ w.grownBy w' v.ownBlock := by
  rcases hr.2 with ⟨rfl, h0⟩ | ⟨g, cap, cur, rfl, hb, hg, hnc, hcm, hcs, htake⟩
  · refine (markCellS_nil none 0 w).mono ?_
    rintro e w' ⟨rfl, rfl⟩
    rw [h0]
    exact ⟨rfl, .inr ⟨rfl, _, _, rfl⟩, gb_refl _ _⟩
  · refine (markCellS_calls g L.length cap 1 _ cur w hn (by omega) (by omega) hg (by rw [hcs]; exact Nat.mul_le_mul_right 2 hnc)).mono ?_
    rintro e w' ⟨rfl, hm, hgb⟩
    exact ⟨rfl, .inl ⟨g, cap, rfl, Nat.lt_of_lt_of_le (Array.getElem?_eq_some_iff.1 hg).1 hgb.size, hm⟩, hgb⟩
/-- laws.heldCellS, of a list that is marked still. -/
theorem heldV_calls (v : Value) (n : Nat) (w : World) (hn : n ≤ 1048576) (hr : HeldV w v n) :
    Calls Try.prog 13 #[v, .int .i64 1] w fun e w' => e = .returned (.int .i64 (1 + 2 * n)) ∧ w = w' := by
  rcases hr with ⟨g, c, rfl, hg, hm⟩ | ⟨rfl, A, c, rfl⟩
  · exact heldCellS_calls g n c 1 w hn (by omega) (by omega) hm
  · exact heldCellS_nil A c w
/-- laws.eqCellS, of two lists of the call's own. -/
theorem eqV_same (u v : Value) (L : List Ce) (b b' : Nat) (w : World) (hn : L.length ≤ 1048576) (hu : CRow w b u L) (hv : CRow w b' v L) :
    Calls Try.prog 9 #[u, v] w fun e w' => e = .returned (.bool true) ∧ Below w.heap.size w w' := by
  obtain ⟨A, c, rfl, hA, -⟩ := hu.reads
  obtain ⟨C, d, rfl, hC, -⟩ := hv.reads
  exact eqCellS_same A C L c d w hn hA hC
theorem CRow.lt {w : World} {base : Nat} {v : Value} {L : List Ce} (h : CRow w base v L) {g : Nat} (hg : v.ownBlock = some g) : base ≤ g ∧ g < w.heap.size := World.ownsRow.lt h g hg
theorem CRow.off {w u : World} {base : Nat} {v : Value} {L : List Ce} (h : CRow w base v L) {r : Option Nat} (hg : w.grownBy u r) (hr : ∀ k, v.ownBlock = some k → r ≠ some k) : CRow u base v L :=
  h.kept hg (by
    cases e : v.ownBlock with
    | none => exact .inl rfl
    | some k => exact .inr (fun h2 => hr k e h2.symm))
theorem Kept.grownO2 {b u w : World} {L : List Box} {r : Option Nat} (h : Kept b L u) (hb : u.grownBy w r) (hr : ∀ k, r = some k → b.heap.size ≤ k ∧ ∀ x ∈ L, x.1 ≠ k) : Kept b L w := by
  cases r with
  | none => exact h.below ⟨hb.os, hb.tape, hb.output, hb.size, fun k hk => hb.block k hk (by simp)⟩
  | some g => exact h.grown hb (hr g rfl).1 (hr g rfl).2

set_option maxRecDepth 20000 in
set_option maxHeartbeats 8000000 in
/-- The law of NewTrust. -/
theorem newLaw_calls (key x nv sm : Int) (L : List Ce) (A : Option Addr) (l : List Int) (cap : Nat) (w : World) (hn : l.length ≤ maxLen) (hL : L.length ≤ 1048576) (hA : Ints w .i64 w.heap.size A l)
    (HI : l.length ≤ 1048576 → ∀ (D : Option Addr) (u : World), Ints u .i64 u.heap.size D l → Calls Try.prog 7 #[.agg #[.int .i64 key, .slice D l.length l.length], .int .i64 x] u fun e w' => ∃ v, e = .returned (.tuple #[.agg #[.int .i64 nv, .int .i64 0, .int .i64 0, .int .i64 0, .int .i64 sm, .int .i64 0, .int .i64 0, .bool false], v]) ∧ CRow w' u.heap.size v L ∧ Below u.heap.size u w') (HS : ∀ (D : Option Addr) (u : World), Ints u .i64 u.heap.size D l → Calls Try.prog 5 #[.agg #[.int .i64 key, .slice D l.length l.length], .int .i64 x] u fun e w' => ∃ v, e = .returned (.tuple #[.agg #[.int .i64 nv, .int .i64 0, .int .i64 0, .int .i64 0, .int .i64 sm, .int .i64 0, .int .i64 0, .bool false], v]) ∧ CRow w' u.heap.size v L ∧ Below u.heap.size u w') :
    Calls Try.prog 3 #[.agg #[.int .i64 key, .slice A l.length cap], .int .i64 x] w fun e w' => e = .returned (.bool true) ∧ Below w.heap.size w w' := by
  have K0 := Lib.hid (show Kept w [(w.heap.size, 24, #[.int .i64 key, .slice A l.length cap])] _ from (Kept.refl w).put1 _ _ #[.int .i64 key, .slice A l.length cap] rfl)
  by_cases hs : 1048576 < l.length
  · have S := Lib.hid (fun w => szPlan_no key A l.length cap w hn hs)
    clear hA hs HI HS
    go_enter Try.func3, Try.ntmps3
    go_wp2_with fail
    refine (S.out _).mono ?_; rintro e w1 ⟨rfl, b1⟩
    have B1 := Lib.hid (K0.out.below b1).1
    clear b1
    go_wp2_with fail
    go_ret
    exact ⟨rfl, B1.out⟩
  · have hs' : l.length ≤ 1048576 := by omega
    have S := Lib.hid (fun w => szPlan_yes key A l.length cap w hs')
    have T := Lib.hid (fun v hb => toPlan_calls key A l cap v hs' ((hA.below (show Below w.heap.size w v from hb) (Nat.le_refl _)).more hb.size))
    have TO := Lib.hid (fun v hb => toPlanO_calls key A l cap v hs' ((hA.below (show Below w.heap.size w v from hb) (Nat.le_refl _)).more hb.size))
    have CI := Lib.hid (HI hs')
    have CS := Lib.hid HS
    have Q := Lib.hid (fun A C w hA hC => eqPlan_same key A C l l.length l.length w hs' hA hC)
    have ET := Lib.hid (fun u => eqTrust_same nv 0 0 0 sm 0 0 false u)
    have EV := Lib.hid (fun u v b b' w hu hv => eqV_same u v L b b' w hL hu hv)
    have MP := Lib.hid (fun g f u hr => markPlan_calls key g l.length l.length f u hs' hr)
    have MV := Lib.hid (fun v b u hr => markV_calls v L b u hL hr)
    have HV := Lib.hid (fun v u hr => heldV_calls v L.length u hL hr)
    have hg : ¬ (1048576 : Int) - l.length < 0 := by omega
    have hq1 : ¬ (1 : Int) + l.length < 0 := by omega
    have hq2 : ¬ (1 : Int) + 2 * L.length < 0 := by omega
    clear hA hs HI HS hn
    go_enter Try.func3, Try.ntmps3
    go_wp2_with fail
    refine (S.out _).mono ?_; rintro e w1 ⟨rfl, b1⟩
    have k1 := K0.out.below b1
    clear b1 S K0
    obtain ⟨kc0, kf0, -⟩ := k1.rd
    have KK := Lib.hid k1
    go_wp2_with fail
    refine (T.out _ KK.out.1).mono ?_; rintro e w2 ⟨G, rfl, hG, b2⟩
    have k2 := KK.out.below b2
    clear k1 b2 KK kc0 kf0
    obtain ⟨kc0, kf0, -⟩ := k2.rd
    have KK := Lib.hid k2
    have HG := Lib.hid hG
    clear hG k2
    go_wp2_with fail
    refine (CS.out _ _ HG.out).mono ?_; rintro e w3 ⟨v7, rfl, r7, b3⟩
    have k3 := KK.out.below b3
    clear b3 KK HG CS kc0 kf0
    have l0 : w.heap.size < w3.heap.size := k3.lt (x := (w.heap.size, 24, #[.int .i64 key, .slice A l.length cap])) (by simp)
    have o7 : ∀ k, v7.ownBlock = some k → k < w3.heap.size := fun k hk => (r7.lt hk).2
    have k3b := k3.put1 w3.heap.size 27 #[.int .i64 nv, .int .i64 0, .int .i64 0, .int .i64 0, .int .i64 sm, .int .i64 0, .int .i64 0, .bool false] rfl
    have r7b := r7.alloc (.cells #[.int .i64 nv, .int .i64 0, .int .i64 0, .int .i64 0, .int .i64 sm, .int .i64 0, .int .i64 0, .bool false] 27)
    clear k3 r7
    go_upto_region 6 with fail
    generalize World.alloc _ _ = w3a at k3b r7b ⊢
    obtain ⟨kc0, kf0, kc1, kf1, -⟩ := k3b.rd
    have KK := Lib.hid k3b
    have R7 := Lib.hid r7b
    have O7 := Lib.hid o7
    have l36 := k3b.lt (x := (w3.heap.size, 27, #[.int .i64 nv, .int .i64 0, .int .i64 0, .int .i64 0, .int .i64 sm, .int .i64 0, .int .i64 0, .bool false])) (by simp)
    clear k3b r7b o7
    go_wp2_with fail
    refine (TO.out _ KK.out.1).mono ?_; rintro e w4 ⟨g, rfl, hgg, hrow, b4⟩
    have k4 := KK.out.below b4
    have r7 := R7.out.below b4
    have hg4 := hrow.lt
    clear b4 KK R7 kc0 kf0 kc1 kf1
    have k4b := k4.put1 w4.heap.size 31 #[.int .i64 key, .slice (some ⟨g, 0, none⟩) l.length l.length] rfl
    have r7b := r7.alloc (.cells #[.int .i64 key, .slice (some ⟨g, 0, none⟩) l.length l.length] 31)
    have hrb := rowIs_block hrow (show (w4.alloc (.cells #[.int .i64 key, .slice (some ⟨g, 0, none⟩) l.length l.length] 31)).heap[g]? = w4.heap[g]? from Below.heap_alloc _ _ _ hg4)
    clear k4 r7 hrow
    go_upto_region 7 with fail
    generalize World.alloc _ _ = w4a at k4b r7b hrb ⊢
    obtain ⟨kc0, kf0, kc1, kf1, kc2, kf2, -⟩ := k4b.rd
    have l48 := k4b.lt (x := (w4.heap.size, 31, #[.int .i64 key, .slice (some ⟨g, 0, none⟩) l.length l.length])) (by simp)
    have KK := Lib.hid k4b
    have R7 := Lib.hid r7b
    have HR := Lib.hid hrb
    clear k4b r7b hrb
    go_wp2_with fail
    refine (CI.out _ _ ((ints_row HR.out).more (by omega))).mono ?_; rintro e w5 ⟨v10, rfl, r10, b5⟩
    have k5 := KK.out.below b5
    have r7 := R7.out.below b5
    have hr5 := rowIs_block HR.out (b5.block g (by omega))
    clear KK R7 HR kc0 kf0 kc1 kf1 kc2 kf2
    have o10 : ∀ k, v10.ownBlock = some k → w4a.heap.size ≤ k ∧ k < w5.heap.size := fun k hk => r10.lt hk
    have lw5 := b5.size
    clear b5
    have k5b := k5.put1 w5.heap.size 27 #[.int .i64 nv, .int .i64 0, .int .i64 0, .int .i64 0, .int .i64 sm, .int .i64 0, .int .i64 0, .bool false] rfl
    have r7b := r7.alloc (.cells #[.int .i64 nv, .int .i64 0, .int .i64 0, .int .i64 0, .int .i64 sm, .int .i64 0, .int .i64 0, .bool false] 27)
    have r10b := r10.alloc (.cells #[.int .i64 nv, .int .i64 0, .int .i64 0, .int .i64 0, .int .i64 sm, .int .i64 0, .int .i64 0, .bool false] 27)
    have hrb := rowIs_block hr5 (show (w5.alloc (.cells #[.int .i64 nv, .int .i64 0, .int .i64 0, .int .i64 0, .int .i64 sm, .int .i64 0, .int .i64 0, .bool false] 27)).heap[g]? = w5.heap[g]? from Below.heap_alloc _ _ _ hr5.lt)
    clear k5 r7 r10 hr5
    go_upto_region 8 with fail
    generalize World.alloc _ _ = w5a at k5b r7b r10b hrb ⊢
    obtain ⟨kc0, kf0, kc1, kf1, kc2, kf2, kc3, kf3, -⟩ := k5b.rd
    have l59 := k5b.lt (x := (w5.heap.size, 27, #[.int .i64 nv, .int .i64 0, .int .i64 0, .int .i64 0, .int .i64 sm, .int .i64 0, .int .i64 0, .bool false])) (by simp)
    have KK := Lib.hid k5b
    have R7 := Lib.hid r7b
    have R10 := Lib.hid r10b
    have HR := Lib.hid hrb
    have O10 := Lib.hid o10
    clear k5b r7b r10b hrb o10
    go_wp2_with fail
    refine (ET.out _).mono ?_; rintro e w6 ⟨rfl, b6⟩
    have k_ := KK.out.below b6
    have r7_ := R7.out.below b6
    have r10_ := R10.out.below b6
    have hr_ := rowIs_block HR.out (b6.block g (by omega))
    have lz := b6.size
    clear KK R7 R10 HR b6 kc0 kf0 kc1 kf1 kc2 kf2 kc3 kf3
    obtain ⟨kc0, kf0, kc1, kf1, kc2, kf2, kc3, kf3, -⟩ := k_.rd
    have KK := Lib.hid k_
    have R7 := Lib.hid r7_
    have R10 := Lib.hid r10_
    have HR := Lib.hid hr_
    clear k_ r7_ r10_ hr_
    go_wp2_with fail
    refine (EV.out _ _ _ _ _ R10.out R7.out).mono ?_; rintro e w7 ⟨rfl, b7⟩
    have k_ := KK.out.below b7
    have r7_ := R7.out.below b7
    have r10_ := R10.out.below b7
    have hr_ := rowIs_block HR.out (b7.block g (by omega))
    have lz := b7.size
    clear KK R7 R10 HR b7 kc0 kf0 kc1 kf1 kc2 kf2 kc3 kf3
    obtain ⟨kc0, kf0, kc1, kf1, kc2, kf2, kc3, kf3, -⟩ := k_.rd
    have KK := Lib.hid k_
    have R7 := Lib.hid r7_
    have R10 := Lib.hid r10_
    have HR := Lib.hid hr_
    clear k_ r7_ r10_ hr_
    go_upto_region 10 with fail
    go_region_with (first
      | (go_at_call 6; refine (T.out _ KK.out.drew.1).mono ?_; rintro e wx ⟨Cx, rfl, hx, bx⟩; have kx := KK.out.drew.below bx; obtain ⟨mc0, mf0, mc1, mf1, mc2, mf2, mc3, mf3, -⟩ := kx.rd; have hrx := rowIs_block HR.out (bx.block g HR.out.lt); have HRX := Lib.hid hrx; have GX := Lib.hid ((ints_row hrx).more hrx.lt); have BX := Lib.hid bx; have HX := Lib.hid hx; clear kx hx bx hrx)
      | (go_at_call 10; refine (Q.out _ _ _ GX.out HX.out).mono ?_; rintro e wy ⟨rfl, hy⟩; have BY := Lib.hid (BX.out.trans (hy.mono BX.out.size)); clear hy))
    all_goals
      have k8 := KK.out.drew.below BY.out
      have r7_ := (show CRow w7.drew _ v7 L from R7.out).below BY.out
      have r10_ := (show CRow w7.drew _ v10 L from R10.out).below BY.out
      have hr_ := rowIs_block HR.out (BY.out.block g HR.out.lt)
      clear KK R7 R10 HR
      have KK := Lib.hid k8
      have R7 := Lib.hid r7_
      have R10 := Lib.hid r10_
      have HR := Lib.hid hr_
      clear k8 r7_ r10_ hr_
      go_upto_region 12 with fail
      obtain ⟨kc0, kf0, kc1, kf1, kc2, kf2, kc3, kf3, -⟩ := KK.out.rd
      go_wp2_with fail
      refine (MP.out _ _ _ HR.out).mono ?_; rintro e w9 ⟨rfl, hgb⟩
      have k_ := KK.out.grown hgb (by omega) (by intro y hy; simp at hy; rcases hy with rfl | rfl | rfl | rfl <;> simp <;> omega)
      have r7_ := R7.out.off hgb (fun k hk e => by have := O7.out k hk; injection e; omega)
      have r10_ := R10.out.off hgb (fun k hk e => by have := O10.out k hk; injection e; omega)
      clear KK R7 R10 HR hgb kc0 kf0 kc1 kf1 kc2 kf2 kc3 kf3
      obtain ⟨kc0, kf0, kc1, kf1, kc2, kf2, kc3, kf3, -⟩ := k_.rd
      have KK := Lib.hid k_
      have R7 := Lib.hid r7_
      have R10 := Lib.hid r10_
      clear k_ r7_ r10_
      go_wp2_with fail
      refine (ET.out _).mono ?_; rintro e w10 ⟨rfl, b10⟩
      have k_ := KK.out.below b10
      have r7_ := R7.out.below b10
      have R10_ := R10.out.below b10
      clear KK R7 b10 R10 kc0 kf0 kc1 kf1 kc2 kf2 kc3 kf3
      obtain ⟨kc0, kf0, kc1, kf1, kc2, kf2, kc3, kf3, -⟩ := k_.rd
      have KK := Lib.hid k_
      have R7 := Lib.hid r7_
      have R10 := Lib.hid R10_
      clear k_ r7_ R10_
      go_wp2_with fail
      refine (EV.out _ _ _ _ _ R10.out R7.out).mono ?_; rintro e w11 ⟨rfl, b11⟩
      have k_ := KK.out.below b11
      have r7_ := R7.out.below b11
      have R10_ := R10.out.below b11
      clear KK R7 b11 R10 kc0 kf0 kc1 kf1 kc2 kf2 kc3 kf3
      obtain ⟨kc0, kf0, kc1, kf1, kc2, kf2, kc3, kf3, -⟩ := k_.rd
      have KK := Lib.hid k_
      have R7 := Lib.hid r7_
      have R10 := Lib.hid R10_
      clear k_ r7_ R10_
      go_wp2_with fail
      refine (MV.out _ _ _ R10.out).mono ?_; rintro e w12 ⟨rfl, hh, hgb⟩
      have k_ := KK.out.grownO2 hgb (fun k hk => ⟨by have := O10.out k hk; omega, by have := O10.out k hk; intro y hy; simp at hy; rcases hy with rfl | rfl | rfl | rfl <;> simp <;> omega⟩)
      have r7_ := R7.out.off hgb (fun k hk e => by have := O7.out k hk; have := O10.out k e; omega)
      clear KK R7 R10 hgb kc0 kf0 kc1 kf1 kc2 kf2 kc3 kf3
      obtain ⟨kc0, kf0, kc1, kf1, kc2, kf2, kc3, kf3, -⟩ := k_.rd
      have KK := Lib.hid k_
      have R7 := Lib.hid r7_
      have HH := Lib.hid hh
      clear k_ r7_ hh
      go_wp2_with fail
      refine (HV.out _ _ HH.out).mono ?_; rintro e w' ⟨rfl, rfl⟩
      go_wp2_with fail
      refine (T.out _ KK.out.1).mono ?_; rintro e w13 ⟨G2, rfl, hG, b13⟩
      have k_ := KK.out.below b13
      have r7_ := R7.out.below b13
      have HH_ := HH.out.below b13
      clear KK R7 b13 HH kc0 kf0 kc1 kf1 kc2 kf2 kc3 kf3
      obtain ⟨kc0, kf0, kc1, kf1, kc2, kf2, kc3, kf3, -⟩ := k_.rd
      have KK := Lib.hid k_
      have R7 := Lib.hid r7_
      have HH := Lib.hid HH_
      clear k_ r7_ HH_
      have HG := Lib.hid hG
      clear hG
      go_wp2_with fail
      refine (CI.out _ _ HG.out).mono ?_; rintro e w14 ⟨v15, rfl, r15, b14⟩
      clear HG
      have k_ := KK.out.below b14
      have r7_ := R7.out.below b14
      have HH_ := HH.out.below b14
      clear KK R7 b14 HH kc0 kf0 kc1 kf1 kc2 kf2 kc3 kf3
      obtain ⟨kc0, kf0, kc1, kf1, kc2, kf2, kc3, kf3, -⟩ := k_.rd
      have KK := Lib.hid k_
      have R7 := Lib.hid r7_
      have HH := Lib.hid HH_
      clear k_ r7_ HH_
      have k_ := KK.out.put1 w14.heap.size 27 #[.int .i64 nv, .int .i64 0, .int .i64 0, .int .i64 0, .int .i64 sm, .int .i64 0, .int .i64 0, .bool false] rfl
      have r7_ := R7.out.alloc (.cells #[.int .i64 nv, .int .i64 0, .int .i64 0, .int .i64 0, .int .i64 sm, .int .i64 0, .int .i64 0, .bool false] 27)
      have r15_ := r15.alloc (.cells #[.int .i64 nv, .int .i64 0, .int .i64 0, .int .i64 0, .int .i64 sm, .int .i64 0, .int .i64 0, .bool false] 27)
      have hh_ := HH.out.below (box_below w14 (.cells #[.int .i64 nv, .int .i64 0, .int .i64 0, .int .i64 0, .int .i64 sm, .int .i64 0, .int .i64 0, .bool false] 27))
      clear KK R7 r15 HH kc0 kf0 kc1 kf1 kc2 kf2 kc3 kf3
      go_upto_region 25 with fail
      generalize World.alloc _ _ = w14a at k_ r7_ r15_ hh_ ⊢
      obtain ⟨kc0, kf0, kc1, kf1, kc2, kf2, kc3, kf3, kc4, kf4, -⟩ := k_.rd
      have KK := Lib.hid k_
      have R7 := Lib.hid r7_
      have R15 := Lib.hid r15_
      have HH := Lib.hid hh_
      clear k_ r7_ r15_ hh_
      go_wp2_with fail
      refine (ET.out _).mono ?_; rintro e w15 ⟨rfl, b15⟩
      have k_ := KK.out.below b15
      have r7_ := R7.out.below b15
      have R15_ := R15.out.below b15
      have HH_ := HH.out.below b15
      clear KK R7 b15 R15 HH kc0 kf0 kc1 kf1 kc2 kf2 kc3 kf3 kc4 kf4
      obtain ⟨kc0, kf0, kc1, kf1, kc2, kf2, kc3, kf3, kc4, kf4, -⟩ := k_.rd
      have KK := Lib.hid k_
      have R7 := Lib.hid r7_
      have R15 := Lib.hid R15_
      have HH := Lib.hid HH_
      clear k_ r7_ R15_ HH_
      go_wp2_with fail
      refine (EV.out _ _ _ _ _ R15.out R7.out).mono ?_; rintro e w16 ⟨rfl, b16⟩
      have k_ := KK.out.below b16
      have r7_ := R7.out.below b16
      have HH_ := HH.out.below b16
      clear KK R7 b16 HH kc0 kf0 kc1 kf1 kc2 kf2 kc3 kf3 kc4 kf4
      obtain ⟨kc0, kf0, kc1, kf1, kc2, kf2, kc3, kf3, kc4, kf4, -⟩ := k_.rd
      have KK := Lib.hid k_
      have R7 := Lib.hid r7_
      have HH := Lib.hid HH_
      clear k_ r7_ HH_
      go_wp2_with fail
      refine (HV.out _ _ HH.out).mono ?_; rintro e w' ⟨rfl, rfl⟩
      go_wp2_with fail
      go_ret
      exact ⟨rfl, KK.out.1⟩
end Go.Proofs.Ythbkccagpggljaa.Mx

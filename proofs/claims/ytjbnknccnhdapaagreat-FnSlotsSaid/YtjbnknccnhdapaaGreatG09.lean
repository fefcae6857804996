import Derived.Test.YtjbnknccnhdapaaGreatG07
import Derived.Test.YtjbnknccnhdapaaGreatG05
namespace Go.Proofs.YtjbnknccnhdapaaGreat.Mx
open Go.ChangeShapes Go.WideShapes Go.ChangeAt Go.RowKit
set_option linter.unusedVariables false
def CelAt (w : World) (b off : Nat) (t : Ce) : Prop := w.cell? ⟨b, off, none⟩ = some (.int .i64 t.1) ∧ w.cell? ⟨b, off + 1, none⟩ = some (.int .i64 t.2)
theorem CelAt.below {w u : World} {B b off : Nat} {t : Ce} (h : CelAt w b off t) (hb : Below B w u) (hlt : b < B) : CelAt u b off t := by
 have f := fun o => hb.cell (p := ⟨b, o, none⟩) hlt
 exact ⟨(f _).trans h.1, (f _).trans h.2⟩
theorem Cls.at_ {w : World} {B : Nat} {A : Option Addr} {L : List Ce} {k : Nat} (h : Cls w B A L) (hk : k < L.length) : ∃ b off, A = some ⟨b, off, none⟩ ∧ b < B ∧ CelAt w b (off + k * 2) (L.getD k default) := by
 obtain ⟨b, off, e, hb, hc⟩ := h k hk
 exact ⟨b, off, e, hb, hc 0 (by omega), hc 1 (by omega)⟩
def cellsOk (key : Int) (l : List Int) (L : List Ce) : Prop := (∀ i, i < L.length → isCell (L.getD i default).1 (L.getD i default).2) ∧ (L.length : Int) = sectorsOf key l
open Classical in
noncomputable def cellsB (key : Int) (l : List Int) (L : List Ce) : Bool := decide (cellsOk key l L)
open Classical in
theorem cellsB_yes {key : Int} {l : List Int} {L : List Ce} (h : cellsOk key l L) : cellsB key l L = true := by unfold cellsB; exact decide_eq_true h
open Classical in
theorem cellsB_no {key : Int} {l : List Int} {L : List Ce} (h : ¬ cellsOk key l L) : cellsB key l L = false := by unfold cellsB; exact decide_eq_false h
def UpToCell (L : List Ce) (k : Nat) : Prop := ∀ i, i < k → isCell (L.getD i default).1 (L.getD i default).2
set_option maxRecDepth 20000 in
set_option maxHeartbeats 4000000 in
theorem l11Cells_calls (key : Int) (A C : Option Addr) (l : List Int) (cap : Nat) (L : List Ce) (cap2 : Nat) (w : World) (hn : l.length ≤ maxLen) (hA : Ints w .i64 w.heap.size A l) (hN : L.length ≤ maxLen) (hC : Cls w w.heap.size C L) :
    Calls Tryz.prog 26 #[.agg (pA key A l.length cap), .slice C L.length cap2] w fun e w' => e = .returned (.bool (cellsB key l L)) ∧ Below w.heap.size w w' := by
 have K0 := Lib.hid (show Kept w [(w.heap.size, 26, (pA key A l.length cap))] _ from (Kept.refl w).put1 _ _ (pA key A l.length cap) rfl)
 have PO := Lib.hid (fun (u : World) (hb : Below w.heap.size w u) => specSectors_calls key A l cap u hn ((hA.below hb (Nat.le_refl _)).more hb.size))
 have TO := Lib.hid (fun (t : Ce) (u : World) => specCellOk_calls t.1 t.2 u)
 have HC := Lib.hid hC
 have hm := hN
 unfold maxLen at hm
 clear hA hC hN hn
 go_enter Tryz.func26, Tryz.ntmps26
 go_wp2_with fail
 go_loopw [5] (fun i wr => ∃ k : Nat, k ≤ L.length ∧ i = .int .i64 k ∧ UpToCell L k ∧ Kept w [(w.heap.size, 26, (pA key A l.length cap))] wr) (fun i _ => L.length - (intOf i).toNat)
 case atStart => exact ⟨0, Nat.zero_le _, rfl, fun i hi => absurd hi (by omega), K0.out⟩
 case round =>
  obtain ⟨k, hk, rfl, hup, hz⟩ := hrel
  have HU := Lib.hid hup
  clear hup
  by_cases hlt : k < L.length
  ·obtain ⟨b, off, rfl, hb, hc⟩ := HC.out.at_ hlt
   have hlt' : (k : Int) < L.length := by omega
   have hk0 : (0 : Int) ≤ k := by omega
   have TB := Lib.hid (TO.out (L.getD k default))
   obtain ⟨c0, c1⟩ := hc.below hz.1 hb
   by_cases hok : isCell (L.getD k default).1 (L.getD k default).2
   ·have NX := Lib.hid (show UpToCell L (k + 1) from fun i hi => by
      rcases Nat.lt_or_ge i k with h | h
      ·exact HU.out i h
      ·obtain rfl : i = k := by omega
       exact hok)
    rw [decide_eq_true hok] at TB
    clear hok HU
    generalize L.getD k default = t at hc TB c0 c1
    go_wp2_with fail
    refine (TB.out _).mono ?_; rintro e w1 ⟨rfl, b1⟩
    have h1 := hz.below b1
    clear b1 hz c0 c1
    go_wp2_with fail
    go_roundw
    case rel => exact ⟨k + 1, by omega, by go_num, NX.out, h1⟩
    case measure => simp [intOf]; omega
   ·rw [decide_eq_false hok] at TB
    have HX := Lib.hid (cellsB_no (l := l) (L := L) (key := key) (fun h => hok (h.1 k hlt)))
    clear hok HU
    generalize L.getD k default = t at hc TB c0 c1
    go_wp2_with fail
    refine (TB.out _).mono ?_; rintro e w1 ⟨rfl, b1⟩
    have h1 := hz.below b1
    clear b1 hz c0 c1
    go_wp2_with fail
    go_ret
    exact ⟨by rw [HX.out]; rfl, h1.1⟩
  ·have hk' : k = L.length := by omega
   subst hk'
   have PB := PO
   by_cases hs : (L.length : Int) = sectorsOf key l
   ·have HX := Lib.hid (cellsB_yes (show cellsOk key l L from ⟨HU.out, hs⟩))
    have hbl : ((L.length : Int) == sectorsOf key l) = true := beq_iff_eq.2 hs
    generalize sectorsOf key l = ss at PB hbl
    clear hs
    obtain ⟨kc0, kf0, -⟩ := hz.rd
    go_wp2_with fail
    refine (PB.out _ hz.1).mono ?_; rintro e w1 ⟨rfl, b1⟩
    have h1 := hz.below b1
    clear b1 hz kc0 kf0
    go_wp2_with fail
    go_ret
    exact ⟨by rw [HX.out]; rfl, h1.1⟩
   ·have HX := Lib.hid (cellsB_no (show ¬ cellsOk key l L from fun h => hs h.2))
    have hbl : ((L.length : Int) == sectorsOf key l) = false := beq_false_of_ne hs
    generalize sectorsOf key l = ss at PB hbl
    clear hs
    obtain ⟨kc0, kf0, -⟩ := hz.rd
    go_wp2_with fail
    refine (PB.out _ hz.1).mono ?_; rintro e w1 ⟨rfl, b1⟩
    have h1 := hz.below b1
    clear b1 hz kc0 kf0
    go_wp2_with fail
    go_ret
    exact ⟨by rw [HX.out]; rfl, h1.1⟩
noncomputable def sealB (key : Int) (l : List Int) (cnt : Int) (L : List Tru) (mac : Int) : Bool := trustsB key l L && decide (0 ≤ cnt ∧ cnt ≤ 10000) && decide (mac = macOf key l cnt L)
noncomputable def slotB (key : Int) (l : List Int) (cnt : Int) (L : List Tru) (mac : Int) (M : List Ce) : Bool := sealB key l cnt L mac && cellsB key l M
set_option maxRecDepth 20000 in
set_option maxHeartbeats 4000000 in
theorem specSealOk_calls (key : Int) (A : Option Addr) (l : List Int) (cap : Nat) (cnt : Int) (B : Option Addr) (L : List Tru) (tc : Nat) (mac : Int) (w : World) (hn : l.length ≤ maxLen) (hA : Ints w .i64 w.heap.size A l) (hN : L.length ≤ 1048576) (hB : Trs w w.heap.size B L) (hI : TrusI L) (hc0 : I64 cnt) :
    Calls Tryz.prog 25 #[.agg (pA key A l.length cap), .agg #[.int .i64 cnt, .slice B L.length tc, .int .i64 mac]] w fun e w' => e = .returned (.bool (sealB key l cnt L mac)) ∧ Below w.heap.size w w' := by
 have K0 := Lib.hid (show Kept w [(w.heap.size + 1, 29, #[.int .i64 cnt, .slice B L.length tc, .int .i64 mac]), (w.heap.size, 26, (pA key A l.length cap))] _ from (((Kept.refl w).put1 _ _ (pA key A l.length cap) rfl).put1 _ _ #[.int .i64 cnt, .slice B L.length tc, .int .i64 mac] (by simp)))
 have TS := Lib.hid (fun (u : World) (hb : Below w.heap.size w u) => l10Trusts_calls key A B l cap L tc u hn ((hA.below hb (Nat.le_refl _)).more hb.size) (by unfold maxLen; omega) ((hB.below hb (Nat.le_refl _)).more hb.size))
 have MC := Lib.hid (fun (u : World) (hb : Below w.heap.size w u) => specMac_calls key cnt A B l cap L tc u hn ((hA.below hb (Nat.le_refl _)).more hb.size) hN ((hB.below hb (Nat.le_refl _)).more hb.size) hI hc0)
 have IN := Lib.hid (fun (u : World) => l1In_b cnt 0 10000 _ u rfl)
 clear hA hB hN hI hc0 hn
 unfold sealB
 generalize trustsB key l L = ts at TS ⊢
 generalize macOf key l cnt L = mo at MC ⊢
 cases ts with
 | false =>
   rw [Bool.false_and, Bool.false_and]
   clear MC IN
   go_enter Tryz.func25, Tryz.ntmps25
   go_upto_region 1 with fail
   refine wp_region_class (C := fun u => Kept w [(w.heap.size + 1, 29, #[.int .i64 cnt, .slice B L.length tc, .int .i64 mac]), (w.heap.size, 26, (pA key A l.length cap))] u) (by kernel_rfl) (by kernel_rfl) (K0.out).drew ?_
   iterate 21 (first
    | go_big_quiet_skip
    | (go_big_quiet_want
       go_big_quiet_op
       first
        | go_big_quiet_on
        | (apply Exists.intro
           refine ⟨fun u hu => ?_, ?_⟩
           ·first
              | with_reducible rfl
              | (go_at_call 30; exact (TS.out u hu.1).mono fun e w' h => ⟨h.1, hu.below h.2⟩)
              | (obtain ⟨kc0, kf0, kc1, kf1, -⟩ := hu.rd; go_simp; first | done | with_reducible rfl)
           go_big_quiet_on)))
   refine wpQuiet_nil ?_
   intro uq hq
   go_wp2_with fail
   go_ret
   exact ⟨rfl, hq.1⟩
 | true =>
   rw [Bool.true_and]
   by_cases hr : 0 ≤ cnt ∧ cnt ≤ 10000
   ·rw [decide_eq_true hr] at IN ⊢
    rw [Bool.true_and]
    clear hr
    by_cases hm : mac = mo
    ·have hb : (mac == mo) = true := beq_iff_eq.2 hm
     rw [decide_eq_true hm]
     clear hm
     go_enter Tryz.func25, Tryz.ntmps25
     go_upto_region 1 with fail
     refine wp_region_class (C := fun u => Kept w [(w.heap.size + 1, 29, #[.int .i64 cnt, .slice B L.length tc, .int .i64 mac]), (w.heap.size, 26, (pA key A l.length cap))] u) (by kernel_rfl) (by kernel_rfl) (K0.out).drew ?_
     iterate 21 (first
      | go_big_quiet_skip
      | (go_big_quiet_want
         go_big_quiet_op
         first
          | go_big_quiet_on
          | (apply Exists.intro
             refine ⟨fun u hu => ?_, ?_⟩
             ·first
                | with_reducible rfl
                | (go_at_call 30; exact (TS.out u hu.1).mono fun e w' h => ⟨h.1, hu.below h.2⟩)
                | (go_at_call 31; exact class_same hu (IN.out u))
                | (go_at_call 33; exact (MC.out u hu.1).mono fun e w' h => ⟨h.1, hu.below h.2⟩)
                | (obtain ⟨kc0, kf0, kc1, kf1, -⟩ := hu.rd; go_simp; first | done | with_reducible rfl)
             go_big_quiet_on)))
     refine wpQuiet_nil ?_
     intro uq hq
     go_wp2_with fail
     go_ret
     exact ⟨rfl, hq.1⟩
    ·have hb : (mac == mo) = false := beq_false_of_ne hm
     rw [decide_eq_false hm]
     clear hm
     go_enter Tryz.func25, Tryz.ntmps25
     go_upto_region 1 with fail
     refine wp_region_class (C := fun u => Kept w [(w.heap.size + 1, 29, #[.int .i64 cnt, .slice B L.length tc, .int .i64 mac]), (w.heap.size, 26, (pA key A l.length cap))] u) (by kernel_rfl) (by kernel_rfl) (K0.out).drew ?_
     iterate 21 (first
      | go_big_quiet_skip
      | (go_big_quiet_want
         go_big_quiet_op
         first
          | go_big_quiet_on
          | (apply Exists.intro
             refine ⟨fun u hu => ?_, ?_⟩
             ·first
                | with_reducible rfl
                | (go_at_call 30; exact (TS.out u hu.1).mono fun e w' h => ⟨h.1, hu.below h.2⟩)
                | (go_at_call 31; exact class_same hu (IN.out u))
                | (go_at_call 33; exact (MC.out u hu.1).mono fun e w' h => ⟨h.1, hu.below h.2⟩)
                | (obtain ⟨kc0, kf0, kc1, kf1, -⟩ := hu.rd; go_simp; first | done | with_reducible rfl)
             go_big_quiet_on)))
     refine wpQuiet_nil ?_
     intro uq hq
     go_wp2_with fail
     go_ret
     exact ⟨rfl, hq.1⟩
   ·rw [decide_eq_false hr] at IN ⊢
    rw [Bool.false_and]
    clear hr MC
    go_enter Tryz.func25, Tryz.ntmps25
    go_upto_region 1 with fail
    refine wp_region_class (C := fun u => Kept w [(w.heap.size + 1, 29, #[.int .i64 cnt, .slice B L.length tc, .int .i64 mac]), (w.heap.size, 26, (pA key A l.length cap))] u) (by kernel_rfl) (by kernel_rfl) (K0.out).drew ?_
    iterate 21 (first
     | go_big_quiet_skip
     | (go_big_quiet_want
        go_big_quiet_op
        first
         | go_big_quiet_on
         | (apply Exists.intro
            refine ⟨fun u hu => ?_, ?_⟩
            ·first
               | with_reducible rfl
               | (go_at_call 30; exact (TS.out u hu.1).mono fun e w' h => ⟨h.1, hu.below h.2⟩)
               | (go_at_call 31; exact class_same hu (IN.out u))
               | (obtain ⟨kc0, kf0, kc1, kf1, -⟩ := hu.rd; go_simp; first | done | with_reducible rfl)
            go_big_quiet_on)))
    refine wpQuiet_nil ?_
    intro uq hq
    go_wp2_with fail
    go_ret
    exact ⟨rfl, hq.1⟩
set_option maxRecDepth 20000 in
set_option maxHeartbeats 2000000 in
theorem specSlotOk_calls (key : Int) (A : Option Addr) (l : List Int) (cap : Nat) (cnt : Int) (B : Option Addr) (L : List Tru) (tc : Nat) (mac : Int) (C : Option Addr) (M : List Ce) (cc : Nat) (w : World) (hn : l.length ≤ maxLen) (hA : Ints w .i64 w.heap.size A l) (hN : L.length ≤ 1048576) (hB : Trs w w.heap.size B L) (hI : TrusI L) (hc0 : I64 cnt) (hM : M.length ≤ 1048576) (hC : Cls w w.heap.size C M) :
    Calls Tryz.prog 9 #[.agg (pA key A l.length cap), .agg #[.int .i64 cnt, .slice B L.length tc, .int .i64 mac, .slice C M.length cc]] w fun e w' => e = .returned (.bool (slotB key l cnt L mac M)) ∧ Below w.heap.size w w' := by
 have K0 := Lib.hid (show Kept w [(w.heap.size + 1, 32, #[.int .i64 cnt, .slice B L.length tc, .int .i64 mac, .slice C M.length cc]), (w.heap.size, 26, (pA key A l.length cap))] _ from (((Kept.refl w).put1 _ _ (pA key A l.length cap) rfl).put1 _ _ #[.int .i64 cnt, .slice B L.length tc, .int .i64 mac, .slice C M.length cc] (by simp)))
 have SO := Lib.hid (fun (u : World) (hb : Below w.heap.size w u) => specSealOk_calls key A l cap cnt B L tc mac u hn ((hA.below hb (Nat.le_refl _)).more hb.size) hN ((hB.below hb (Nat.le_refl _)).more hb.size) hI hc0)
 have CL := Lib.hid (fun (u : World) (hb : Below w.heap.size w u) => l11Cells_calls key A C l cap M cc u hn ((hA.below hb (Nat.le_refl _)).more hb.size) (by unfold maxLen; omega) ((hC.below hb (Nat.le_refl _)).more hb.size))
 clear hA hB hN hI hc0 hn hC hM
 unfold slotB
 generalize sealB key l cnt L mac = so at SO ⊢
 generalize cellsB key l M = co at CL ⊢
 cases so with
 | false =>
   rw [Bool.false_and]
   clear CL
   go_enter Tryz.func9, Tryz.ntmps9
   go_wp2_with fail
   refine (SO.out _ K0.out.1).mono ?_; rintro e uz1 ⟨rfl, bz2⟩
   have hz3 := K0.out.below bz2
   clear bz2
   obtain ⟨kc0, kf0, kc1, kf1, -⟩ := hz3.rd
   go_wp2_with fail
   go_ret
   exact ⟨rfl, hz3.1⟩
 | true =>
   rw [Bool.true_and]
   go_enter Tryz.func9, Tryz.ntmps9
   go_wp2_with fail
   refine (SO.out _ K0.out.1).mono ?_; rintro e uz1 ⟨rfl, bz2⟩
   have hz3 := K0.out.below bz2
   clear bz2
   obtain ⟨kc0, kf0, kc1, kf1, -⟩ := hz3.rd
   go_wp2_with fail
   refine (CL.out _ hz3.1).mono ?_; rintro e uz4 ⟨rfl, bz5⟩
   have hz6 := hz3.below bz5
   clear bz5 hz3 kc0 kf0 kc1 kf1
   obtain ⟨kc0, kf0, kc1, kf1, -⟩ := hz6.rd
   go_wp2_with fail
   go_ret
   exact ⟨rfl, hz6.1⟩
structure SlN where
 count : Int
 trusts : List Tru
 mac : Int
 cells : List Ce
instance : Inhabited SlN := ⟨⟨0, [], 0, []⟩⟩
def SlN.Fits (s : SlN) : Prop := s.trusts.length ≤ 1048576 ∧ s.cells.length ≤ 1048576 ∧ TrusI s.trusts ∧ I64 s.count
def SlR (w : World) (Bd : Nat) (B : Option Addr) (tc : Nat) (C : Option Addr) (cc : Nat) (s : SlN) : Prop := Trs w Bd B s.trusts ∧ Cls w Bd C s.cells
def SlotAt (w : World) (Bd b off : Nat) (s : SlN) : Prop :=
 ∃ B tc C cc, w.cell? ⟨b, off, none⟩ = some (.int .i64 s.count) ∧ w.cell? ⟨b, off + 1, none⟩ = some (.slice B s.trusts.length tc) ∧ w.cell? ⟨b, off + 2, none⟩ = some (.int .i64 s.mac) ∧ w.cell? ⟨b, off + 3, none⟩ = some (.slice C s.cells.length cc) ∧ SlR w Bd B tc C cc s
def Slots (w : World) (Bd : Nat) (A : Option Addr) (S : List SlN) : Prop := ∀ i, i < S.length → ∃ b off, A = some ⟨b, off, none⟩ ∧ b < Bd ∧ SlotAt w Bd b (off + i * 4) (S.getD i default)
theorem SlR.below {w u : World} {Bd D : Nat} {B C : Option Addr} {tc cc : Nat} {s : SlN} (h : SlR w Bd B tc C cc s) (hb : Below D w u) (hD : Bd ≤ D) : SlR u Bd B tc C cc s := ⟨h.1.below hb hD, h.2.below hb hD⟩
theorem SlR.more {w : World} {Bd D : Nat} {B C : Option Addr} {tc cc : Nat} {s : SlN} (h : SlR w Bd B tc C cc s) (hD : Bd ≤ D) : SlR w D B tc C cc s := ⟨h.1.more hD, h.2.more hD⟩
theorem SlotAt.below {w u : World} {Bd D b off : Nat} {s : SlN} (h : SlotAt w Bd b off s) (hb : Below D w u) (hD : Bd ≤ D) (hlt : b < Bd) : SlotAt u Bd b off s := by
 obtain ⟨B, tc, C, cc, c0, c1, c2, c3, hr⟩ := h
 have f := fun o => hb.cell (p := ⟨b, o, none⟩) (Nat.lt_of_lt_of_le hlt hD)
 exact ⟨B, tc, C, cc, (f _).trans c0, (f _).trans c1, (f _).trans c2, (f _).trans c3, hr.below hb hD⟩
theorem SlotAt.more {w : World} {Bd D b off : Nat} {s : SlN} (h : SlotAt w Bd b off s) (hD : Bd ≤ D) : SlotAt w D b off s := by
 obtain ⟨B, tc, C, cc, c0, c1, c2, c3, hr⟩ := h
 exact ⟨B, tc, C, cc, c0, c1, c2, c3, hr.more hD⟩
theorem Slots.below {w u : World} {Bd D : Nat} {A : Option Addr} {S : List SlN} (h : Slots w Bd A S) (hb : Below D w u) (hD : Bd ≤ D) : Slots u Bd A S := by
 intro i hi
 obtain ⟨b, off, e, hlt, hs⟩ := h i hi
 exact ⟨b, off, e, hlt, hs.below hb hD hlt⟩
theorem Slots.more {w : World} {Bd D : Nat} {A : Option Addr} {S : List SlN} (h : Slots w Bd A S) (hD : Bd ≤ D) : Slots w D A S := by
 intro i hi
 obtain ⟨b, off, e, hlt, hs⟩ := h i hi
 exact ⟨b, off, e, by omega, hs.more hD⟩
theorem Slots.grow {w u : World} {A : Option Addr} {S : List SlN} (h : Slots w w.heap.size A S) (hb : Below w.heap.size w u) : Slots u u.heap.size A S := (h.below hb (Nat.le_refl _)).more hb.size
noncomputable def choiceB (key : Int) (l : List Int) (n : Int) (s : SlN) : Bool := slotB key l s.count s.trusts s.mac s.cells && decide (s.count = n)
noncomputable def chosenOf (key : Int) (l : List Int) (S : List SlN) (n : Int) : Int := if S.findIdx (choiceB key l n) < S.length then (S.findIdx (choiceB key l n) : Int) else -1
theorem chosenOf_at {key n : Int} {l : List Int} {S : List SlN} {k : Nat} (hk : k < S.length) (h : choiceB key l n (S.getD k default) = true) (hn : ∀ j, j < k → choiceB key l n (S.getD j default) = false) : chosenOf key l S n = k := by
 have e : S.findIdx (choiceB key l n) = k := by
  rw [List.findIdx_eq hk]
  refine ⟨by rwa [List.getD_eq_getElem?_getD, List.getElem?_eq_getElem hk] at h, fun j hj => ?_⟩
  have h2 := hn j hj
  rw [List.getD_eq_getElem?_getD, List.getElem?_eq_getElem (by omega)] at h2
  simpa using h2
 unfold chosenOf
 rw [e, if_pos hk]
theorem chosenOf_none {key n : Int} {l : List Int} {S : List SlN} (hn : ∀ j, j < S.length → choiceB key l n (S.getD j default) = false) : chosenOf key l S n = -1 := by
 unfold chosenOf
 rw [if_neg]
 intro hlt
 have h := List.findIdx_getElem (w := hlt)
 have h2 := hn _ hlt
 rw [List.getD_eq_getElem?_getD, List.getElem?_eq_getElem hlt] at h2
 simp only [Option.getD_some] at h2
 rw [h2] at h; cases h
def NoneYet (key : Int) (l : List Int) (n : Int) (S : List SlN) (k : Nat) : Prop := ∀ j, j < k → choiceB key l n (S.getD j default) = false
theorem NoneYet.succ {key n : Int} {l : List Int} {S : List SlN} {k : Nat} (h : NoneYet key l n S k) (hk : choiceB key l n (S.getD k default) = false) : NoneYet key l n S (k + 1) := by
 intro j hj
 rcases Nat.lt_or_ge j k with h1 | h1
 ·exact h j h1
 ·obtain rfl : j = k := by omega
  exact hk
set_option maxRecDepth 20000 in
set_option maxHeartbeats 4000000 in
theorem specChosen_calls (key : Int) (A D : Option Addr) (l : List Int) (cap : Nat) (S : List SlN) (cap2 : Nat) (n : Int) (w : World) (hn : l.length ≤ maxLen) (hA : Ints w .i64 w.heap.size A l) (hN : S.length ≤ 1048576) (hD : Slots w w.heap.size D S) (hF : ∀ i, i < S.length → (S.getD i default).Fits) :
    Calls Tryz.prog 10 #[.agg (pA key A l.length cap), .slice D S.length cap2, .int .i64 n] w fun e w' => e = .returned (.int .i64 (chosenOf key l S n)) ∧ Below w.heap.size w w' := by
 have K0 := Lib.hid (show Kept w [(w.heap.size, 26, (pA key A l.length cap))] _ from (Kept.refl w).put1 _ _ (pA key A l.length cap) rfl)
 have SO := Lib.hid (fun (s : SlN) (B : Option Addr) (tc : Nat) (C : Option Addr) (cc : Nat) (hs : s.Fits) (hr : SlR w w.heap.size B tc C cc s) (u : World) (hb : Below w.heap.size w u) =>
  specSlotOk_calls key A l cap s.count B s.trusts tc s.mac C s.cells cc u hn ((hA.below hb (Nat.le_refl _)).more hb.size) hs.1 ((hr.1.below hb (Nat.le_refl _)).more hb.size) hs.2.2.1 hs.2.2.2 hs.2.1 ((hr.2.below hb (Nat.le_refl _)).more hb.size))
 have HD := Lib.hid hD
 have HF := Lib.hid hF
 clear hA hD hF hn
 go_enter Tryz.func10, Tryz.ntmps10
 go_wp2_with fail
 go_loopw [7] (fun i wr => ∃ k : Nat, k ≤ S.length ∧ i = .int .i64 k ∧ NoneYet key l n S k ∧ Kept w [(w.heap.size, 26, (pA key A l.length cap))] wr) (fun i _ => S.length - (intOf i).toNat)
 case atStart => exact ⟨0, Nat.zero_le _, rfl, fun i hi => absurd hi (by omega), K0.out⟩
 case round =>
  obtain ⟨k, hk, rfl, hup, hz⟩ := hrel
  have HU := Lib.hid hup
  clear hup
  by_cases hlt : k < S.length
  ·obtain ⟨b, off, rfl, hb, B, tc, C, cc, c0, c1, c2, c3, hr⟩ := HD.out k hlt
   have hlt' : (k : Int) < S.length := by omega
   have hk0 : (0 : Int) ≤ k := by omega
   have TB := Lib.hid (SO.out _ B tc C cc (HF.out k hlt) hr)
   have HCH := Lib.hid (show choiceB key l n (S.getD k default) = (slotB key l (S.getD k default).count (S.getD k default).trusts (S.getD k default).mac (S.getD k default).cells && decide ((S.getD k default).count = n)) from rfl)
   have HAT := Lib.hid (fun (h : choiceB key l n (S.getD k default) = true) => chosenOf_at hlt h HU.out)
   have HNX := Lib.hid (fun (h : choiceB key l n (S.getD k default) = false) => HU.out.succ h)
   clear hr
   generalize slotB key l (S.getD k default).count (S.getD k default).trusts (S.getD k default).mac (S.getD k default).cells = sb at TB HCH
   generalize choiceB key l n (S.getD k default) = ch at HCH HAT HNX
   generalize (S.getD k default).count = sc at c0 TB HCH
   generalize (S.getD k default).mac = sm at c2 TB
   generalize (S.getD k default).trusts.length = tl at c1 TB
   generalize (S.getD k default).cells.length = cl at c3 TB
   cases sb with
   | false =>
     have NX := Lib.hid (HNX.out (by rw [HCH.out, Bool.false_and]))
     clear HCH HAT HNX HU
     go_upto_region 4 with fail
     refine wp_region_class (C := fun u => Kept w [(w.heap.size, 26, (pA key A l.length cap))] u) (by kernel_rfl) (by kernel_rfl) hz.drew ?_
     iterate 16 (first
      | go_big_quiet_skip
      | (go_big_quiet_want
         go_big_quiet_op
         first
          | go_big_quiet_on
          | (apply Exists.intro
             refine ⟨fun u hu => ?_, ?_⟩
             ·first
                | with_reducible rfl
                | (go_at_call 9; exact (TB.out u hu.1).mono fun e w' h => ⟨h.1, hu.below h.2⟩)
                | (obtain ⟨kc0, kf0, -⟩ := hu.rd; have d0 := (hu.1.cell (p := ⟨b, off + k * 4, none⟩) hb).trans c0; have d1 := (hu.1.cell (p := ⟨b, off + k * 4 + 1, none⟩) hb).trans c1; have d2 := (hu.1.cell (p := ⟨b, off + k * 4 + 2, none⟩) hb).trans c2; have d3 := (hu.1.cell (p := ⟨b, off + k * 4 + 3, none⟩) hb).trans c3; go_simp; first | done | with_reducible rfl)
             go_big_quiet_on)))
     refine wpQuiet_nil ?_
     intro uq hq
     go_wp2_with fail
     go_roundw
     case rel => exact ⟨k + 1, by omega, by go_num, NX.out, hq⟩
     case measure => simp [intOf]; omega
   | true =>
     by_cases hcn : sc = n
     ·have AT := Lib.hid (HAT.out (by rw [HCH.out, decide_eq_true hcn]; rfl))
      have hbe : (sc == n) = true := beq_iff_eq.2 hcn
      clear HCH HAT HNX HU hcn
      go_upto_region 4 with fail
      refine wp_region_class (C := fun u => Kept w [(w.heap.size, 26, (pA key A l.length cap))] u) (by kernel_rfl) (by kernel_rfl) hz.drew ?_
      iterate 16 (first
       | go_big_quiet_skip
       | (go_big_quiet_want
          go_big_quiet_op
          first
           | go_big_quiet_on
           | (apply Exists.intro
              refine ⟨fun u hu => ?_, ?_⟩
              ·first
                 | with_reducible rfl
                 | (go_at_call 9; exact (TB.out u hu.1).mono fun e w' h => ⟨h.1, hu.below h.2⟩)
                 | (obtain ⟨kc0, kf0, -⟩ := hu.rd; have d0 := (hu.1.cell (p := ⟨b, off + k * 4, none⟩) hb).trans c0; have d1 := (hu.1.cell (p := ⟨b, off + k * 4 + 1, none⟩) hb).trans c1; have d2 := (hu.1.cell (p := ⟨b, off + k * 4 + 2, none⟩) hb).trans c2; have d3 := (hu.1.cell (p := ⟨b, off + k * 4 + 3, none⟩) hb).trans c3; go_simp; first | done | with_reducible rfl)
              go_big_quiet_on)))
      refine wpQuiet_nil ?_
      intro uq hq
      go_wp2_with fail
      go_ret
      exact ⟨by rw [AT.out]; rfl, hq.1⟩
     ·have NX := Lib.hid (HNX.out (by rw [HCH.out, decide_eq_false hcn]; rfl))
      have hbe : (sc == n) = false := beq_false_of_ne hcn
      clear HCH HAT HNX HU hcn
      go_upto_region 4 with fail
      refine wp_region_class (C := fun u => Kept w [(w.heap.size, 26, (pA key A l.length cap))] u) (by kernel_rfl) (by kernel_rfl) hz.drew ?_
      iterate 16 (first
       | go_big_quiet_skip
       | (go_big_quiet_want
          go_big_quiet_op
          first
           | go_big_quiet_on
           | (apply Exists.intro
              refine ⟨fun u hu => ?_, ?_⟩
              ·first
                 | with_reducible rfl
                 | (go_at_call 9; exact (TB.out u hu.1).mono fun e w' h => ⟨h.1, hu.below h.2⟩)
                 | (obtain ⟨kc0, kf0, -⟩ := hu.rd; have d0 := (hu.1.cell (p := ⟨b, off + k * 4, none⟩) hb).trans c0; have d1 := (hu.1.cell (p := ⟨b, off + k * 4 + 1, none⟩) hb).trans c1; have d2 := (hu.1.cell (p := ⟨b, off + k * 4 + 2, none⟩) hb).trans c2; have d3 := (hu.1.cell (p := ⟨b, off + k * 4 + 3, none⟩) hb).trans c3; go_simp; first | done | with_reducible rfl)
              go_big_quiet_on)))
      refine wpQuiet_nil ?_
      intro uq hq
      go_wp2_with fail
      go_roundw
      case rel => exact ⟨k + 1, by omega, by go_num, NX.out, hq⟩
      case measure => simp [intOf]; omega
  ·have hk' : k = S.length := by omega
   subst hk'
   have HX := Lib.hid (chosenOf_none (key := key) (l := l) (n := n) HU.out)
   clear HU
   go_wp2_with fail
   go_ret
   exact ⟨by rw [HX.out]; rfl, hz.1⟩
theorem seal_end {w w1 : World} {r : Nat} {t : TypeId} {x y z x0 y0 z0 : Value} (hk : CellsAt w1 r t #[x0, y0, z0]) (hb : Below w.heap.size w w1) (hr : w.heap.size ≤ r) :
    ∃ w4, ((w1.setCell ⟨r, 0, none⟩ x).setCell ⟨r, 1, none⟩ y).setCell ⟨r, 2, none⟩ z = w4 ∧ (w4.cell? ⟨r, 0, none⟩ = some x ∧ w4.cell? ⟨r, 1, none⟩ = some y ∧ w4.cell? ⟨r, 2, none⟩ = some z) ∧ Below w.heap.size w w4 ∧ w1.grownBy w4 (some r) := by
 have h := ((hk.set_ 0 x).set_ 1 y).set_ 2 z
 exact ⟨_, rfl, ⟨h.cell 0, h.cell 1, h.cell 2⟩, ((hb.setCell (p := ⟨r, 0, none⟩) hr x).setCell (p := ⟨r, 1, none⟩) hr y).setCell (p := ⟨r, 2, none⟩) hr z, gb_set (gb_set (gb_set (gb_refl _ _) 0 x) 1 y) 2 z⟩
def NewSe (b : World) (cnt : Int) (L : List Tru) (mac : Int) (e : Ending) (w' : World) : Prop := ∃ A c, e = .returned (.agg #[.int .i64 cnt, .slice A L.length c, .int .i64 mac]) ∧ TrRow w' b.heap.size (.slice A L.length c) L ∧ Below b.heap.size b w'
set_option maxRecDepth 20000 in
set_option maxHeartbeats 2000000 in
theorem l10Seal_calls (cnt : Int) (B : Option Addr) (L : List Tru) (tc : Nat) (mac : Int) (w : World) (hN : L.length ≤ 1048576) (hB : Trs w w.heap.size B L) :
    Calls Tryz.prog 111 #[.agg #[.int .i64 cnt, .slice B L.length tc, .int .i64 mac]] w (NewSe w cnt L mac) := by
 have K0 := Lib.hid (show Kept w [(w.heap.size + 1, 29, #[.int .i64 0, .slice none 0 0, .int .i64 0]), (w.heap.size, 29, #[.int .i64 cnt, .slice B L.length tc, .int .i64 mac])] _ from (((Kept.refl w).put1 _ _ #[.int .i64 cnt, .slice B L.length tc, .int .i64 mac] rfl).put1 _ _ #[.int .i64 0, .slice none 0 0, .int .i64 0] (by simp)))
 have CO := Lib.hid (fun (u : World) (hb : Below w.heap.size w u) => l10Copy_calls B L tc u hN ((hB.below hb (Nat.le_refl _)).more hb.size))
 clear hB
 go_enter Tryz.func111, Tryz.ntmps111
 go_wp2_with fail
 refine (CO.out _ K0.out.1).mono ?_; rintro e u ⟨v, rfl, hrow, b1⟩
 have hk := K0.out.below b1
 obtain ⟨A', c', rfl, _, _⟩ := hrow.reads truV_len
 have hr2 : TrRow u (w.heap.size + 1 + 1) (.slice A' L.length c') L := by have h := hrow; simpa using h
 clear b1 hrow
 obtain ⟨kc0, kf0, kc1, kf1, -⟩ := hk.rd
 have HK := Lib.hid hk
 have HR := Lib.hid hr2
 clear hk hr2
 go_upto_region 2 with fail
 have hq : Kept w [(w.heap.size + 1, 29, #[.int .i64 0, .slice none 0 0, .int .i64 0]), (w.heap.size, 29, #[.int .i64 cnt, .slice A' L.length c', .int .i64 mac])] _ := HK.out.put (k := 1) rfl (by unfold Apart; simp) (gb_set (gb_refl _ (some w.heap.size)) 1 (.slice A' L.length c')) ((HK.out.at_ (p := w.heap.size) (t := 29) (cs := #[.int .i64 cnt, .slice B L.length tc, .int .i64 mac]) (by simp)).set_ 1 _)
 have hr3 := HR.out.grown (gb_set (gb_refl u (some w.heap.size)) 1 (.slice A' L.length c')) (by omega)
 clear kc0 kf0 kc1 kf1
 generalize World.setCell _ _ _ = wq at hq hr3 ⊢
 obtain ⟨kc0, kf0, kc1, kf1, -⟩ := hq.rd
 have HQ := Lib.hid hq
 have HR3 := Lib.hid hr3
 clear hq hr3
 go_wp2_with fail
 obtain ⟨w9, e9, ⟨d0, d1, d2⟩, hb9, hg9⟩ := seal_end (w := w) (x := .int .i64 cnt) (y := .slice A' L.length c') (z := .int .i64 mac) (HQ.out.at_ (p := w.heap.size + 1) (t := 29) (cs := #[.int .i64 0, .slice none 0 0, .int .i64 0]) (by simp)) HQ.out.1 (by omega)
 rw [e9]
 exact bodyPost_ret (v := .agg #[.int .i64 cnt, .slice A' L.length c', .int .i64 mac]) (by simp [results, Tryz.results111, go_sem, d0, d1, d2]) rfl ⟨A', c', rfl, (HR3.out.grown hg9 (by omega)).mono (by omega), hb9⟩
theorem ints_one (l : List Int) : ∀ u ∈ l.map (Value.int .i64), u.oneCell' = true := by
 intro u hu
 obtain ⟨x, _, rfl⟩ := List.mem_map.1 hu
 rfl
theorem ints_news {w : World} {B : Nat} {A : Option Addr} {l : List Int} (h : Ints w .i64 B A l) : ∀ j u, (l.map (Value.int .i64))[j]? = some u → ∃ ad, A = some ad ∧ w.cell? (ad.add j) = some u := by
 intro j u hu
 have hj : j < l.length := by have := (List.getElem?_eq_some_iff.1 hu).1; simpa using this
 obtain ⟨b, off, rfl, _, hc⟩ := h j hj
 refine ⟨_, rfl, ?_⟩
 rw [Addr.add_mid, hc]
 rw [List.getElem?_map, List.getElem?_eq_getElem hj] at hu
 simp only [Option.map_some, Option.some.injEq] at hu
 rw [← hu, List.getD_eq_getElem?_getD, List.getElem?_eq_getElem hj]
 rfl
def IRow (w : World) (base : Nat) (v : Value) (l : List Int) : Prop := w.ownsRow base 2 1 v l.length (l.map (Value.int .i64))
theorem IRow.form {w : World} {base : Nat} {v : Value} {l : List Int} (h : IRow w base v l) : ∃ A c, v = .slice A l.length c ∧ Ints w .i64 w.heap.size A l ∧ l.length ≤ c := by
 rcases h.2 with ⟨rfl, hn⟩ | ⟨g, cap, cur, rfl, hb, hg, hnc, hcm, hcs, htake⟩
 ·have : l = [] := List.length_eq_zero_iff.1 hn
  subst this
  exact ⟨none, 0, rfl, Ints.nil, Nat.le_refl _⟩
 ·refine ⟨_, cap, rfl, fun i hi => ⟨g, 0, rfl, (Array.getElem?_eq_some_iff.1 hg).1, ?_⟩, hnc⟩
  rw [Nat.zero_add, World.ownsRow.cellAt h i (by omega), List.getElem?_map, List.getElem?_eq_getElem hi, List.getD_eq_getElem?_getD, List.getElem?_eq_getElem hi]
  rfl
def NewInts (b : World) (l : List Int) (e : Ending) (w' : World) : Prop := ∃ A c, e = .returned (.slice A l.length c) ∧ IRow w' b.heap.size (.slice A l.length c) l ∧ Below b.heap.size b w'
set_option maxHeartbeats 1000000 in
theorem l1Copy_calls (A : Option Addr) (l : List Int) (cap : Nat) (w : World) (hn : l.length ≤ 1048576) (hA : Ints w .i64 w.heap.size A l) :
    Calls Tryz.prog 48 #[.slice A l.length cap] w (NewInts w l) := by
 have HB := Lib.hid ((Below.refl w.heap.size w).alloc (Nat.le_refl _) (.cells #[] 2))
 have HA := Lib.hid (ints_news ((hA.below HB.out (Nat.le_refl _)).more HB.out.size))
 have HR := Lib.hid (World.ownsRow_made (e := 2) (size := 1) w #[] 0 (Nat.le_refl w.heap.size) (by simp [maxLen]) rfl)
 have h1 := ints_one l
 clear hA
 go_enter Tryz.func48, Tryz.ntmps48
 go_wp2_with (at_builtin; refine wpList_append_row rfl _ _ 24 rfl w.heap.size 2 1 8 0 (.int .i64 0) (.slice (some ⟨w.heap.size, 0, none⟩) 0 0) [] A l.length cap (l.map (Value.int .i64)) Tryz.underlying24 info_i64 rfl (by omega) rfl HR.out rfl (by simp) HA.out h1 (by unfold maxLen; omega) (by omega) (by simp) ?_)
 intro v' w' hown hg _
 have hb : Below w.heap.size w w' := bgb HB.out (g := w.heap.size) (by simpa [Value.ownBlock] using hg) (by simp) (Nat.le_refl _)
 have hrow : IRow w' w.heap.size v' l := hown
 obtain ⟨A', c', rfl, _, _⟩ := hrow.form
 go_wp2_with fail
 go_ret
 exact ⟨A', c', rfl, hrow, hb⟩
theorem row_new {u w' : World} {t size n : Nat} {A : Option Addr} {c m : Nat} {xs : List Value} (h : w'.ownsRow u.heap.size t size (.slice A m c) n xs) : ∀ g ∈ (ownRow 0 0 t size n xs).fp (.slice A m c), u.heap.size ≤ g ∧ g < w'.heap.size := by
 intro g hg
 cases A with
 | none => simp [ownRow] at hg
 | some a =>
   simp only [ownRow, List.mem_singleton] at hg
   subst hg
   exact World.ownsRow.lt h a.block rfl
theorem row_mono {u : World} {base base' t size n : Nat} {v : Value} {xs : List Value} (h : u.ownsRow base t size v n xs) (hb : base' ≤ base) : u.ownsRow base' t size v n xs := by
 refine ⟨h.1, ?_⟩
 rcases h.2 with h0 | ⟨g, cap, cur, e, hg, r⟩
 ·exact .inl h0
 ·exact .inr ⟨g, cap, cur, e, Nat.le_trans hb hg, r⟩
def NewPl (b : World) (key : Int) (l : List Int) (e : Ending) (w' : World) : Prop := ∃ A c, e = .returned (.agg (pA key A l.length c)) ∧ IRow w' b.heap.size (.slice A l.length c) l ∧ Below b.heap.size b w'
set_option maxRecDepth 20000 in
set_option maxHeartbeats 2000000 in
theorem l5Copy_calls (key : Int) (A : Option Addr) (l : List Int) (cap : Nat) (w : World) (hn : l.length ≤ 1048576) (hA : Ints w .i64 w.heap.size A l) :
    Calls Tryz.prog 28 #[.agg (pA key A l.length cap)] w (NewPl w key l) := by
 have K0 := Lib.hid (show Kept w [(w.heap.size + 1, 26, zP), (w.heap.size, 26, (pA key A l.length cap))] _ from (((Kept.refl w).put1 _ _ (pA key A l.length cap) rfl).put1 _ _ zP (by simp)))
 have CO := Lib.hid (fun (u : World) (hb : Below w.heap.size w u) => l1Copy_calls A l cap u hn ((hA.below hb (Nat.le_refl _)).more hb.size))
 clear hA
 go_enter Tryz.func28, Tryz.ntmps28
 go_upto_region 1 with fail
 have hk := K0.out
 generalize (w.alloc _).alloc _ = w0 at hk ⊢
 have lm0 : w.heap.size < w0.heap.size := hk.lt (x := (w.heap.size, 26, (pA key A l.length cap))) (by simp)
 have lm1 : w.heap.size + 1 < w0.heap.size := hk.lt (x := (w.heap.size + 1, 26, zP)) (by simp)
 have hn0 : Kept w [(w.heap.size, 26, (pA key A l.length cap))] _ := hk.sub (by intro y hy; simp at hy ⊢; subst hy; simp)
 have hcz := hk.at_ (p := w.heap.size + 1) (t := 26) (cs := zP) (by simp)
 have hok : OutB.Ok (⟨w.heap.size + 1, 26, 2, 6, [4], fun γ => #[.int .i64 key, γ 4]⟩ : OutB) w (w0.heap.size) [(w.heap.size, 26, (pA key A l.length cap))] := ⟨by simp only [] <;> omega, by simp only [] <;> omega, by intro y hy; simp only [List.mem_cons, List.not_mem_nil, or_false] at hy; subst hy <;> (simp only []; omega), fun γ γ' ha => by simp only []; rw [ha 4 (by simp)], fun γ => rfl, by simp⟩
 have hstab : ∀ zz ∈ ([ownRow 4 w.heap.size 2 1 l.length (l.map (Value.int .i64))] : List Own), zz.Stable := by
  intro y hy
  simp only [List.mem_cons, List.not_mem_nil, or_false] at hy
  subst hy; exact ownRow.stable _ _ _ _ _ _
 have hstart : ∀ γ, OwnR w (w0.heap.size) [(w.heap.size, 26, (pA key A l.length cap))] [ownRow 4 w.heap.size 2 1 l.length (l.map (Value.int .i64))] (fun _ _ => false) (⟨w.heap.size + 1, 26, 2, 6, [4], fun γ => #[.int .i64 key, γ 4]⟩ : OutB) (fun _ => false) γ _ := fun γ => OwnR.start hn0 hn0.1.size (Nat.le_refl _) (by intro y hy; simp only [List.mem_cons, List.not_mem_nil, or_false] at hy; subst hy <;> (simp only []; omega)) hcz rfl
 refine wp_region_free [false, false, false, false, true, false, true] (ShL [(4, fun v => ∃ (A : Option Addr) (c : Nat), v = .slice A l.length c)]) (fun D γ u => OwnR w (w0.heap.size) [(w.heap.size, 26, (pA key A l.length cap))] [ownRow 4 w.heap.size 2 1 l.length (l.map (Value.int .i64))] (fun _ _ => false) (⟨w.heap.size + 1, 26, 2, 6, [4], fun γ => #[.int .i64 key, γ 4]⟩ : OutB) D γ u) (by kernel_rfl) (by kernel_rfl) (fun γ => by kernel_rfl) (fun D γ γ' w ha h => h.loc hok ha) (ShL.inh _ ?inh) (fun γ => hstart γ) (fun γ hγ => ?_)
 case inh =>
  intro y hy
  simp only [List.mem_cons, List.not_mem_nil, or_false] at hy
  subst hy
  ·exact ⟨_, none, 0, rfl⟩
 clear hstart hn0 hcz
 obtain ⟨A4, c4, g4⟩ : ∃ (A : Option Addr) (c : Nat), γ 4 = .slice A l.length c := hγ 4 rfl
 have g6 : γ 6 = undef := hγ 6 rfl
 clear hk
 apply Exists.intro
 refine ⟨fun D => ?_, ?_, ?_⟩
 ·simp only [hushL, cond_true, cond_false, Nat.reduceAdd, g4, g6]
  iterate 7 (first
   | go_big_quiet_skip
   | (go_big_quiet_want
      go_big_quiet_op
      first
       | go_big_quiet_on
       | (apply Exists.intro
          refine ⟨fun u hu => ?_, ?_⟩
          ·first
             | with_reducible rfl
             | (obtain ⟨kc0, kf0, -⟩ := hu.1.1.1.rd; go_simp; first | done | with_reducible rfl)
          go_big_quiet_on)))
  exact wpQuiet_nil rfl
 ·simp only [freeOk, Nat.reduceAdd]
  refine ⟨fun D u hD hd hu => ?_, fun D u hD hd hu => ?_, trivial⟩
  ·refine steps_call ((CO.out u hu.1.1.1.1).mono ?_) rfl rfl rfl rfl (by kernel_rfl)
   rintro e w' ⟨A5, c5, rfl, hrow, hb⟩
   refine ⟨_, rfl, ⟨A5, c5, rfl⟩, ?_⟩
   exact hu.made hok hstab (z := ownRow 4 w.heap.size 2 1 l.length (l.map (Value.int .i64))) (by simp) (by intro y hy; simp only [List.mem_cons, List.not_mem_nil, or_false] at hy; subst hy; exact .inl rfl) hD (Nat.ne_of_beq_eq_false rfl) hb (row_mono hrow hu.1.1.1.1.size) (fun g hg => row_new hrow g hg)
  ·obtain ⟨z, hz, hzs⟩ := hu.box
   refine steps_store hz rfl rfl (show _ = Value.agg (pA key A4 l.length c4) from rfl) (by kernel_rfl) hzs (by simp [Value.oneCell']) (fun w' hc hg => ⟨rfl, hu.stored hok hstab (by intro y hy; simp only [List.mem_cons, List.not_mem_nil, or_false] at hy; subst hy; exact ⟨Nat.ne_of_beq_eq_false rfl, Nat.ne_of_beq_eq_false rfl⟩) (by intro y hy; simp only [List.mem_cons, List.not_mem_nil, or_false] at hy; subst hy; exact hd { on := 4, ground := Ground.phase } (by simp) rfl rfl) hg ?_ _⟩)
   show CellsAt w' (w.heap.size + 1) 26 (#[.int .i64 key, γ 4])
   simp only [g4]
   exact hc
 ·intro D uf hD hu
  have ho4 : IRow uf w.heap.size (γ 4) l := (hu.1.at_ (z := ownRow 4 w.heap.size 2 1 l.length (l.map (Value.int .i64))) (by simp) (hD 4 (by simp) rfl)).1
  simp only [g4] at ho4
  obtain ⟨hres0, hf⟩ := hu.done (hD 6 (by simp) rfl)
  have hres : CellsAt uf (w.heap.size + 1) 26 (#[.int .i64 key, γ 4]) := hres0
  simp only [g4] at hres
  clear hres0
  have d0 := hres.cell 0
  have d1 := hres.cell 1
  go_wp2_with fail
  exact bodyPost_ret (v := .agg (pA key A4 l.length c4)) (by simp [results, Tryz.results28, go_sem, d0, d1]) rfl ⟨A4, c4, rfl, ho4, hf.1⟩
end Go.Proofs.YtjbnknccnhdapaaGreat.Mx

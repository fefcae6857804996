import Derived.Test.YtjbnknccnhdapaaGreatG04
import Derived.Test.YtjbnknccnhdapaaGreatG05
import Derived.Test.YtjbnknccnhdapaaGreatG01
import Derived.Deep.RegionHeld3
import Derived.Deep.CutRange
import Derived.Maps.OwnSet
import Derived.DeepKeys4
import Derived.MapViews
import Derived.Deep.RegionWith
import Derived.Deep.AppendLies
import Derived.Test.YtjbnknccnhdapaaGreatG03
namespace Go.Proofs.YtjbnknccnhdapaaGreat.Mx
open Go.ChangeShapes Go.WideShapes Go.ChangeAt Go.RowKit
set_option linter.unusedVariables false
structure Tru where
 clock : Int
 epoch : Int
 cursor : Int
 read : Int
 written : Int
 nread : Int
 nwritten : Int
 failed : Bool
abbrev tR (t : Tru) : Array Value := #[.int .i64 t.clock, .int .i64 t.epoch, .int .i64 t.cursor, .int .i64 t.read, .int .i64 t.written, .int .i64 t.nread, .int .i64 t.nwritten, .bool t.failed]
def isSumP (s : Int) : Prop := 0 ≤ s ∧ s ≤ 4611686018427387903
instance (s : Int) : Decidable (isSumP s) := inferInstanceAs (Decidable (_ ∧ _))
def trustOk (key : Int) (l : List Int) (r : Int) (t : Tru) : Prop :=
 planOk key l ∧ (0 ≤ r ∧ r < l.length) ∧ isTm t.clock ∧ (0 ≤ t.epoch ∧ t.epoch ≤ 1000) ∧ (0 ≤ t.cursor ∧ t.cursor ≤ l.getD r.toNat 0 - 1) ∧
 (t.cursor = 0 → t.nread = 0 ∧ t.nwritten = 0) ∧ isSumP t.read ∧ isSumP t.written ∧ isSumP t.nread ∧ isSumP t.nwritten
open Classical in
noncomputable def trustB (key : Int) (l : List Int) (r : Int) (t : Tru) : Bool := decide (trustOk key l r t)
open Classical in
theorem trustB_yes {key : Int} {l : List Int} {r : Int} {t : Tru} (h : trustOk key l r t) : trustB key l r t = true := by unfold trustB; exact decide_eq_true h
open Classical in
theorem trustB_no {key : Int} {l : List Int} {r : Int} {t : Tru} (h : ¬ trustOk key l r t) : trustB key l r t = false := by unfold trustB; exact decide_eq_false h
def InB (s lo hi : Int) (z : Bool) : Prop := z = decide (lo ≤ s ∧ s ≤ hi)
theorem InB.yes {s lo hi : Int} (h0 : lo ≤ s) (h1 : s ≤ hi) : InB s lo hi true := (decide_eq_true ⟨h0, h1⟩).symm
theorem InB.no {s lo hi : Int} (h : ¬ (lo ≤ s ∧ s ≤ hi)) : InB s lo hi false := (decide_eq_false h).symm
theorem l1In_b (s lo hi : Int) (z : Bool) (w : World) (h : InB s lo hi z) :
    Calls Tryz.prog 31 #[.int .i64 s, .int .i64 lo, .int .i64 hi] w fun e w' => e = .returned (.bool z) ∧ w = w' := by
 unfold InB at h
 subst h
 by_cases hc : lo ≤ s ∧ s ≤ hi
 ·rw [decide_eq_true hc]; exact l1In_yes s lo hi w hc.1 hc.2
 ·rw [decide_eq_false hc]; exact l1In_no s lo hi w (by omega)
def TmB (s : Int) (z : Bool) : Prop := z = decide (isTm s)
theorem TmB.yes {s : Int} (h : isTm s) : TmB s true := (decide_eq_true h).symm
theorem TmB.no {s : Int} (h : ¬ isTm s) : TmB s false := (decide_eq_false h).symm
theorem l3Time_b (s : Int) (z : Bool) (w : World) (h : TmB s z) :
    Calls Tryz.prog 74 #[.int .i64 s] w fun e w' => e = .returned (.bool z) ∧ w = w' := by
 unfold TmB at h
 subst h
 by_cases hc : isTm s
 ·rw [decide_eq_true hc]; exact l3Time_yes s w hc
 ·rw [decide_eq_false hc]; exact l3Time_no s w hc
def SumB (s : Int) (z : Bool) : Prop := z = decide (isSumP s)
theorem SumB.yes {s : Int} (h : isSumP s) : SumB s true := (decide_eq_true h).symm
theorem SumB.no {s : Int} (h : ¬ isSumP s) : SumB s false := (decide_eq_false h).symm
theorem l7Sum_b (s : Int) (z : Bool) (w : World) (h : SumB s z) :
    Calls Tryz.prog 80 #[.int .i64 s] w fun e w' => e = .returned (.bool z) ∧ w = w' := by
 have C := Lib.hid (fun w => l1In_b s 0 4611686018427387903 z w h)
 clear h
 go_enter Tryz.func80, Tryz.ntmps80
 go_wp2_with fail
 refine (C.out _).mono ?_; rintro e w' ⟨rfl, rfl⟩
 go_wp2_with fail
 go_ret
 exact ⟨rfl, rfl⟩
def TrS (b : World) (p q : Nat) (cs ds : Array Value) (c : Addr) (x : Value) (w : World) : Prop :=
 Below b.heap.size b w ∧ CellsAt w p 26 cs ∧ CellsAt w q 67 ds ∧ c.block < w.heap.size ∧ w.cell? c = some x
section
variable {b w w' : World} {p q : Nat} {u v x0 x1 x2 x3 x4 x5 x6 x7 x : Value} {c : Addr}
theorem TrS.cells (h : TrS b p q #[u, v] #[x0, x1, x2, x3, x4, x5, x6, x7] c x w) :
    (w.cell? ⟨p, 0, none⟩ = some u ∧ w.cell? ⟨p, 1, none⟩ = some v ∧ w.cell? ⟨q, 0, none⟩ = some x0 ∧ w.cell? ⟨q, 1, none⟩ = some x1 ∧ w.cell? ⟨q, 2, none⟩ = some x2 ∧ w.cell? c = some x) ∧ TrS b p q #[u, v] #[x0, x1, x2, x3, x4, x5, x6, x7] c x w :=
 ⟨⟨h.2.1.cell 0, h.2.1.cell 1, h.2.2.1.cell 0, h.2.2.1.cell 1, h.2.2.1.cell 2, h.2.2.2.2⟩, h⟩
theorem TrS.keep (hb : Below w.heap.size w w')
    (h : (w.cell? ⟨p, 0, none⟩ = some u ∧ w.cell? ⟨p, 1, none⟩ = some v ∧ w.cell? ⟨q, 0, none⟩ = some x0 ∧ w.cell? ⟨q, 1, none⟩ = some x1 ∧ w.cell? ⟨q, 2, none⟩ = some x2 ∧ w.cell? c = some x) ∧ TrS b p q #[u, v] #[x0, x1, x2, x3, x4, x5, x6, x7] c x w) :
    (w'.cell? ⟨p, 0, none⟩ = some u ∧ w'.cell? ⟨p, 1, none⟩ = some v ∧ w'.cell? ⟨q, 0, none⟩ = some x0 ∧ w'.cell? ⟨q, 1, none⟩ = some x1 ∧ w'.cell? ⟨q, 2, none⟩ = some x2 ∧ w'.cell? c = some x) ∧ TrS b p q #[u, v] #[x0, x1, x2, x3, x4, x5, x6, x7] c x w' :=
 TrS.cells ⟨h.2.1.trans (hb.mono h.2.1.size), h.2.2.1.below hb h.2.2.1.lt, h.2.2.2.1.below hb h.2.2.2.1.lt, Nat.lt_of_lt_of_le h.2.2.2.2.1 hb.size, (hb.cell h.2.2.2.2.1).trans h.2.2.2.2.2⟩
end
set_option maxRecDepth 20000 in
set_option maxHeartbeats 4000000 in
theorem specTrustOk_calls (key x : Int) (A : Option Addr) (l : List Int) (cap : Nat) (t0 t1 t2 t3 t4 t5 t6 : Int) (t7 : Bool) (w : World) (hn : l.length ≤ maxLen) (hA : Ints w .i64 w.heap.size A l) :
    Calls Tryz.prog 53 #[.agg (pA key A l.length cap), .int .i64 x, .agg (tA t0 t1 t2 t3 t4 t5 t6 t7)] w fun e w' => e = .returned (.bool (trustB key l x ⟨t0, t1, t2, t3, t4, t5, t6, t7⟩)) ∧ Below w.heap.size w w' := by
 have hm := hn
 unfold maxLen at hm
 have b0 : Below w.heap.size w ((w.alloc (.cells (pA key A l.length cap) 26)).alloc (.cells (tA t0 t1 t2 t3 t4 t5 t6 t7) 67)) := ((Below.refl w.heap.size w).alloc (Nat.le_refl _) _).alloc (by simp) _
 have kp : CellsAt ((w.alloc (.cells (pA key A l.length cap) 26)).alloc (.cells (tA t0 t1 t2 t3 t4 t5 t6 t7) 67)) w.heap.size 26 (pA key A l.length cap) := CellsAt.grown (CellsAt.new w _ _) (World.grownBy_alloc _ _ none) (by simp)
 have kq : CellsAt ((w.alloc (.cells (pA key A l.length cap) 26)).alloc (.cells (tA t0 t1 t2 t3 t4 t5 t6 t7) 67)) (w.heap.size + 1) 67 (tA t0 t1 t2 t3 t4 t5 t6 t7) := by
  have h := CellsAt.new (w.alloc (.cells (pA key A l.length cap) 26)) 67 (tA t0 t1 t2 t3 t4 t5 t6 t7)
  rwa [show (w.alloc (.cells (pA key A l.length cap) 26)).heap.size = w.heap.size + 1 by simp] at h
 have HA := Lib.hid hA
 have PO := Lib.hid (fun (u : World) (hb : Below w.heap.size w u) => specPlanOk_calls key A l cap u hn ((hA.below hb (Nat.le_refl _)).more hb.size))
 have EI := Lib.hid (fun (s lo hi : Int) (z : Bool) (h : InB s lo hi z) (u : World) => l1In_b s lo hi z u h)
 have ET := Lib.hid (fun (s : Int) (z : Bool) (h : TmB s z) (u : World) => l3Time_b s z u h)
 have T0 := Lib.hid (show TrS w w.heap.size (w.heap.size + 1) (pA key A l.length cap) (tA t0 t1 t2 t3 t4 t5 t6 t7) ⟨w.heap.size, 0, none⟩ (.int .i64 key) ((w.alloc (.cells (pA key A l.length cap) 26)).alloc (.cells (tA t0 t1 t2 t3 t4 t5 t6 t7) 67)).drew from ⟨b0.drew, kp.drew, kq.drew, by simp; omega, kp.cell 0⟩)
 have TF := Lib.hid (fun (hb : Below w.heap.size w ((w.alloc (.cells (pA key A l.length cap) 26)).alloc (.cells (tA t0 t1 t2 t3 t4 t5 t6 t7) 67))) => (show ∀ (bb oo : Nat) (z : Int), A = some ⟨bb, oo, none⟩ → bb < w.heap.size → w.cell? ⟨bb, oo + x.toNat, none⟩ = some (.int .i64 z) → TrS w w.heap.size (w.heap.size + 1) (pA key A l.length cap) (tA t0 t1 t2 t3 t4 t5 t6 t7) ⟨bb, oo + x.toNat, none⟩ (.int .i64 z) ((w.alloc (.cells (pA key A l.length cap) 26)).alloc (.cells (tA t0 t1 t2 t3 t4 t5 t6 t7) 67)).drew from
  fun bb oo z _ hlt hc => ⟨hb.drew, kp.drew, kq.drew, by simp; omega, (hb.cell (p := ⟨bb, oo + x.toNat, none⟩) hlt).trans hc⟩))
 have B0 := Lib.hid b0
 have hwl : IntKind.i64.wrap ((l.length : Int) - 1) = l.length - 1 := IntWalk.i64_in _ (by omega)
 clear hA hn b0 kp kq
 go_enter Tryz.func53, Tryz.ntmps53
 go_upto_region 1 with fail
 go_cut [42] from 7 (fun s u => ∃ z : Bool, s = .bool z ∧ (z = false ↔ (planOk key l ∧ (0 ≤ x ∧ x < l.length) ∧ isTm t0 ∧ (0 ≤ t1 ∧ t1 ≤ 1000) ∧ 0 ≤ t2 ∧ t2 ≤ l.getD x.toNat 0 - 1)) ∧ Below w.heap.size w u ∧ CellsAt u (w.heap.size + 1) 67 (tA t0 t1 t2 t3 t4 t5 t6 t7))
 case first =>
  by_cases hp : planOk key l
  ·by_cases hx : 0 ≤ x ∧ x < l.length
   ·obtain ⟨r, rfl⟩ : ∃ r : Nat, x = r := ⟨x.toNat, by omega⟩
    have hr : r < l.length := by omega
    have hr' : (r : Int) < l.length := by omega
    have hr0 : (0 : Int) ≤ r := by omega
    obtain ⟨bb, oo, rfl, hbb, hcc⟩ := HA.out r hr
    have hv := hp.2.2.1 r hr
    have T1 := Lib.hid (TF.out B0.out bb oo (l.getD r 0) rfl hbb (by simpa using hcc))
    rw [show ((r : Int)).toNat = r by simp] at T1
    have hi : InB r 0 (l.length - 1) true := InB.yes (by omega) (by omega)
    obtain ⟨v, hvv⟩ : ∃ v, v = l.getD r 0 := ⟨_, rfl⟩
    rw [← hvv] at hcc hv T1
    have HV := Lib.hid (show l.getD ((r : Int)).toNat 0 = v by rw [hvv]; simp)
    clear hvv
    obtain ⟨v0, v1⟩ := hv
    have hwv : IntKind.i64.wrap (v - 1) = v - 1 := IntWalk.i64_in _ (by omega)
    by_cases h0 : isTm t0
    ·have g0 : TmB t0 true := TmB.yes h0
     by_cases h1 : 0 ≤ t1 ∧ t1 ≤ 1000
     ·have g1 : InB t1 0 1000 true := InB.yes h1.1 h1.2
      by_cases h2 : 0 ≤ t2 ∧ t2 ≤ v - 1
      ·have g2 : InB t2 0 (v - 1) true := InB.yes h2.1 h2.2
       have P1 := Lib.hid (fun (u : World) (h : TrS w w.heap.size (w.heap.size + 1) (pA key (some ⟨bb, oo, none⟩) l.length cap) (tA t0 t1 t2 t3 t4 t5 t6 t7) ⟨bb, oo + r, none⟩ (.int .i64 v) u) => (PO.out u h.1).mono (fun e w' ⟨he, hb⟩ => (⟨he, (TrS.keep hb (TrS.cells h)).2⟩ : _ ∧ TrS w w.heap.size (w.heap.size + 1) (pA key (some ⟨bb, oo, none⟩) l.length cap) (tA t0 t1 t2 t3 t4 t5 t6 t7) ⟨bb, oo + r, none⟩ (.int .i64 v) w')))
       rw [okB_yes hp] at P1
       refine wp_region_class (C := fun u => TrS w w.heap.size (w.heap.size + 1) (pA key (some ⟨bb, oo, none⟩) l.length cap) (tA t0 t1 t2 t3 t4 t5 t6 t7) ⟨bb, oo + r, none⟩ (.int .i64 v) u) (by kernel_rfl) (by kernel_rfl) T1.out ?_
       iterate 36 (first
        | go_big_quiet_skip
        | (go_big_quiet_want
           go_big_quiet_op
           first
            | go_big_quiet_on
            | (apply Exists.intro
               refine ⟨fun u hu => ?_, ?_⟩
               ·first
                  | with_reducible rfl
                  | (go_at_call 27; exact P1.out u hu)
                  | (go_at_call 31; exact class_same hu (EI.out _ _ _ _ ‹InB _ _ _ _› u))
                  | (go_at_call 74; exact class_same hu (ET.out _ _ ‹TmB _ _› u))
                  | (obtain ⟨⟨e0, e1, e2, e3, e4, e5⟩, -⟩ := TrS.cells hu; go_simp; first | done | with_reducible rfl)
               go_big_quiet_on)))
       refine wpQuiet_nil ?_
       intro wz hz
       go_wp2_with fail
       go_meet
       exact ⟨_, rfl, ⟨fun _ => ⟨hp, ⟨by omega, by omega⟩, h0, h1, by rw [HV.out]; exact h2⟩, fun _ => rfl⟩, hz.1, hz.2.2.1⟩
      ·have g2 : InB t2 0 (v - 1) false := InB.no h2
       have P1 := Lib.hid (fun (u : World) (h : TrS w w.heap.size (w.heap.size + 1) (pA key (some ⟨bb, oo, none⟩) l.length cap) (tA t0 t1 t2 t3 t4 t5 t6 t7) ⟨bb, oo + r, none⟩ (.int .i64 v) u) => (PO.out u h.1).mono (fun e w' ⟨he, hb⟩ => (⟨he, (TrS.keep hb (TrS.cells h)).2⟩ : _ ∧ TrS w w.heap.size (w.heap.size + 1) (pA key (some ⟨bb, oo, none⟩) l.length cap) (tA t0 t1 t2 t3 t4 t5 t6 t7) ⟨bb, oo + r, none⟩ (.int .i64 v) w')))
       rw [okB_yes hp] at P1
       refine wp_region_class (C := fun u => TrS w w.heap.size (w.heap.size + 1) (pA key (some ⟨bb, oo, none⟩) l.length cap) (tA t0 t1 t2 t3 t4 t5 t6 t7) ⟨bb, oo + r, none⟩ (.int .i64 v) u) (by kernel_rfl) (by kernel_rfl) T1.out ?_
       iterate 36 (first
        | go_big_quiet_skip
        | (go_big_quiet_want
           go_big_quiet_op
           first
            | go_big_quiet_on
            | (apply Exists.intro
               refine ⟨fun u hu => ?_, ?_⟩
               ·first
                  | with_reducible rfl
                  | (go_at_call 27; exact P1.out u hu)
                  | (go_at_call 31; exact class_same hu (EI.out _ _ _ _ ‹InB _ _ _ _› u))
                  | (go_at_call 74; exact class_same hu (ET.out _ _ ‹TmB _ _› u))
                  | (obtain ⟨⟨e0, e1, e2, e3, e4, e5⟩, -⟩ := TrS.cells hu; go_simp; first | done | with_reducible rfl)
               go_big_quiet_on)))
       refine wpQuiet_nil ?_
       intro wz hz
       go_wp2_with fail
       go_meet
       exact ⟨_, rfl, ⟨fun h => (by cases h), fun h => absurd (by have h5 := h.2.2.2.2; rw [HV.out] at h5; exact h5) h2⟩, hz.1, hz.2.2.1⟩
     ·have g1 : InB t1 0 1000 false := InB.no h1
      have P1 := Lib.hid (fun (u : World) (h : TrS w w.heap.size (w.heap.size + 1) (pA key (some ⟨bb, oo, none⟩) l.length cap) (tA t0 t1 t2 t3 t4 t5 t6 t7) ⟨bb, oo + r, none⟩ (.int .i64 v) u) => (PO.out u h.1).mono (fun e w' ⟨he, hb⟩ => (⟨he, (TrS.keep hb (TrS.cells h)).2⟩ : _ ∧ TrS w w.heap.size (w.heap.size + 1) (pA key (some ⟨bb, oo, none⟩) l.length cap) (tA t0 t1 t2 t3 t4 t5 t6 t7) ⟨bb, oo + r, none⟩ (.int .i64 v) w')))
      rw [okB_yes hp] at P1
      refine wp_region_class (C := fun u => TrS w w.heap.size (w.heap.size + 1) (pA key (some ⟨bb, oo, none⟩) l.length cap) (tA t0 t1 t2 t3 t4 t5 t6 t7) ⟨bb, oo + r, none⟩ (.int .i64 v) u) (by kernel_rfl) (by kernel_rfl) T1.out ?_
      iterate 36 (first
       | go_big_quiet_skip
       | (go_big_quiet_want
          go_big_quiet_op
          first
           | go_big_quiet_on
           | (apply Exists.intro
              refine ⟨fun u hu => ?_, ?_⟩
              ·first
                 | with_reducible rfl
                 | (go_at_call 27; exact P1.out u hu)
                 | (go_at_call 31; exact class_same hu (EI.out _ _ _ _ ‹InB _ _ _ _› u))
                 | (go_at_call 74; exact class_same hu (ET.out _ _ ‹TmB _ _› u))
                 | (obtain ⟨⟨e0, e1, e2, e3, e4, e5⟩, -⟩ := TrS.cells hu; go_simp; first | done | with_reducible rfl)
              go_big_quiet_on)))
      refine wpQuiet_nil ?_
      intro wz hz
      go_wp2_with fail
      go_meet
      exact ⟨_, rfl, ⟨fun h => (by cases h), fun h => absurd h.2.2.2.1 h1⟩, hz.1, hz.2.2.1⟩
    ·have g0 : TmB t0 false := TmB.no h0
     have P1 := Lib.hid (fun (u : World) (h : TrS w w.heap.size (w.heap.size + 1) (pA key (some ⟨bb, oo, none⟩) l.length cap) (tA t0 t1 t2 t3 t4 t5 t6 t7) ⟨bb, oo + r, none⟩ (.int .i64 v) u) => (PO.out u h.1).mono (fun e w' ⟨he, hb⟩ => (⟨he, (TrS.keep hb (TrS.cells h)).2⟩ : _ ∧ TrS w w.heap.size (w.heap.size + 1) (pA key (some ⟨bb, oo, none⟩) l.length cap) (tA t0 t1 t2 t3 t4 t5 t6 t7) ⟨bb, oo + r, none⟩ (.int .i64 v) w')))
     rw [okB_yes hp] at P1
     refine wp_region_class (C := fun u => TrS w w.heap.size (w.heap.size + 1) (pA key (some ⟨bb, oo, none⟩) l.length cap) (tA t0 t1 t2 t3 t4 t5 t6 t7) ⟨bb, oo + r, none⟩ (.int .i64 v) u) (by kernel_rfl) (by kernel_rfl) T1.out ?_
     iterate 36 (first
      | go_big_quiet_skip
      | (go_big_quiet_want
         go_big_quiet_op
         first
          | go_big_quiet_on
          | (apply Exists.intro
             refine ⟨fun u hu => ?_, ?_⟩
             ·first
                | with_reducible rfl
                | (go_at_call 27; exact P1.out u hu)
                | (go_at_call 31; exact class_same hu (EI.out _ _ _ _ ‹InB _ _ _ _› u))
                | (go_at_call 74; exact class_same hu (ET.out _ _ ‹TmB _ _› u))
                | (obtain ⟨⟨e0, e1, e2, e3, e4, e5⟩, -⟩ := TrS.cells hu; go_simp; first | done | with_reducible rfl)
             go_big_quiet_on)))
     refine wpQuiet_nil ?_
     intro wz hz
     go_wp2_with fail
     go_meet
     exact ⟨_, rfl, ⟨fun h => (by cases h), fun h => absurd h.2.2.1 h0⟩, hz.1, hz.2.2.1⟩
   ·have hi : InB x 0 (l.length - 1) false := InB.no (by omega)
    have P1 := Lib.hid (fun (u : World) (h : TrS w w.heap.size (w.heap.size + 1) (pA key A l.length cap) (tA t0 t1 t2 t3 t4 t5 t6 t7) ⟨w.heap.size, 0, none⟩ (.int .i64 key) u) => (PO.out u h.1).mono (fun e w' ⟨he, hb⟩ => (⟨he, (TrS.keep hb (TrS.cells h)).2⟩ : _ ∧ TrS w w.heap.size (w.heap.size + 1) (pA key A l.length cap) (tA t0 t1 t2 t3 t4 t5 t6 t7) ⟨w.heap.size, 0, none⟩ (.int .i64 key) w')))
    rw [okB_yes hp] at P1
    refine wp_region_class (C := fun u => TrS w w.heap.size (w.heap.size + 1) (pA key A l.length cap) (tA t0 t1 t2 t3 t4 t5 t6 t7) ⟨w.heap.size, 0, none⟩ (.int .i64 key) u) (by kernel_rfl) (by kernel_rfl) T0.out ?_
    iterate 36 (first
     | go_big_quiet_skip
     | (go_big_quiet_want
        go_big_quiet_op
        first
         | go_big_quiet_on
         | (apply Exists.intro
            refine ⟨fun u hu => ?_, ?_⟩
            ·first
               | with_reducible rfl
               | (go_at_call 27; exact P1.out u hu)
               | (go_at_call 31; exact class_same hu (EI.out _ _ _ _ ‹InB _ _ _ _› u))
               | (go_at_call 74; exact class_same hu (ET.out _ _ ‹TmB _ _› u))
               | (obtain ⟨⟨e0, e1, e2, e3, e4, e5⟩, -⟩ := TrS.cells hu; go_simp; first | done | with_reducible rfl)
            go_big_quiet_on)))
    refine wpQuiet_nil ?_
    intro wz hz
    go_wp2_with fail
    go_meet
    exact ⟨_, rfl, ⟨fun h => (by cases h), fun h => absurd h.2.1 hx⟩, hz.1, hz.2.2.1⟩
  ·skip
   have P1 := Lib.hid (fun (u : World) (h : TrS w w.heap.size (w.heap.size + 1) (pA key A l.length cap) (tA t0 t1 t2 t3 t4 t5 t6 t7) ⟨w.heap.size, 0, none⟩ (.int .i64 key) u) => (PO.out u h.1).mono (fun e w' ⟨he, hb⟩ => (⟨he, (TrS.keep hb (TrS.cells h)).2⟩ : _ ∧ TrS w w.heap.size (w.heap.size + 1) (pA key A l.length cap) (tA t0 t1 t2 t3 t4 t5 t6 t7) ⟨w.heap.size, 0, none⟩ (.int .i64 key) w')))
   rw [okB_no hp] at P1
   refine wp_region_class (C := fun u => TrS w w.heap.size (w.heap.size + 1) (pA key A l.length cap) (tA t0 t1 t2 t3 t4 t5 t6 t7) ⟨w.heap.size, 0, none⟩ (.int .i64 key) u) (by kernel_rfl) (by kernel_rfl) T0.out ?_
   iterate 36 (first
    | go_big_quiet_skip
    | (go_big_quiet_want
       go_big_quiet_op
       first
        | go_big_quiet_on
        | (apply Exists.intro
           refine ⟨fun u hu => ?_, ?_⟩
           ·first
              | with_reducible rfl
              | (go_at_call 27; exact P1.out u hu)
              | (go_at_call 31; exact class_same hu (EI.out _ _ _ _ ‹InB _ _ _ _› u))
              | (go_at_call 74; exact class_same hu (ET.out _ _ ‹TmB _ _› u))
              | (obtain ⟨⟨e0, e1, e2, e3, e4, e5⟩, -⟩ := TrS.cells hu; go_simp; first | done | with_reducible rfl)
           go_big_quiet_on)))
   refine wpQuiet_nil ?_
   intro wz hz
   go_wp2_with fail
   go_meet
   exact ⟨_, rfl, ⟨fun h => (by cases h), fun h => absurd h.1 hp⟩, hz.1, hz.2.2.1⟩
 case rest =>
 obtain ⟨z, rfl, hz, hb, hq⟩ := hcut
 have HBW := Lib.hid hb
 have q2 : wc.cell? ⟨w.heap.size + 1, 2, none⟩ = some (.int .i64 t2) := hq.cell 2
 have q3 : wc.cell? ⟨w.heap.size + 1, 3, none⟩ = some (.int .i64 t3) := hq.cell 3
 have q4 : wc.cell? ⟨w.heap.size + 1, 4, none⟩ = some (.int .i64 t4) := hq.cell 4
 have q5 : wc.cell? ⟨w.heap.size + 1, 5, none⟩ = some (.int .i64 t5) := hq.cell 5
 have q6 : wc.cell? ⟨w.heap.size + 1, 6, none⟩ = some (.int .i64 t6) := hq.cell 6
 clear hb hq PO EI ET T0 TF HA
 rcases z with _ | _
 ·have hG := hz.1 rfl
  clear hz
  by_cases c2 : t2 = 0
  ·skip
   by_cases c5 : t5 = 0
   ·skip
    by_cases c6 : t6 = 0
    ·subst c2 c5 c6
     have s0 : isSumP 0 := ⟨by omega, by omega⟩
     by_cases s3 : isSumP t3
     ·by_cases s4 : isSumP t4
      ·skip
       go_wp2_with fail
       refine (l7Sum_b t3 true _ (SumB.yes s3)).mono ?_; rintro e w' ⟨rfl, rfl⟩
       go_wp2_with fail
       refine (l7Sum_b t4 true _ (SumB.yes s4)).mono ?_; rintro e w' ⟨rfl, rfl⟩
       go_wp2_with fail
       refine (l7Sum_b 0 true _ (SumB.yes s0)).mono ?_; rintro e w' ⟨rfl, rfl⟩
       go_wp2_with fail
       refine (l7Sum_b 0 true _ (SumB.yes s0)).mono ?_; rintro e w' ⟨rfl, rfl⟩
       go_wp2_with fail
       go_ret
       exact ⟨by rw [trustB_yes ⟨hG.1, hG.2.1, hG.2.2.1, hG.2.2.2.1, hG.2.2.2.2, (fun _ => ⟨rfl, rfl⟩), s3, s4, s0, s0⟩]; rfl, HBW.out⟩
      ·skip
       go_wp2_with fail
       refine (l7Sum_b t3 true _ (SumB.yes s3)).mono ?_; rintro e w' ⟨rfl, rfl⟩
       go_wp2_with fail
       refine (l7Sum_b t4 false _ (SumB.no s4)).mono ?_; rintro e w' ⟨rfl, rfl⟩
       go_wp2_with fail
       go_ret
       exact ⟨by rw [trustB_no (fun h => s4 h.2.2.2.2.2.2.2.1)]; rfl, HBW.out⟩
     ·skip
      go_wp2_with fail
      refine (l7Sum_b t3 false _ (SumB.no s3)).mono ?_; rintro e w' ⟨rfl, rfl⟩
      go_wp2_with fail
      go_ret
      exact ⟨by rw [trustB_no (fun h => s3 h.2.2.2.2.2.2.1)]; rfl, HBW.out⟩
    ·have c6' : (t6 == 0) = false := by simpa using c6
     go_wp2_with fail
     go_ret
     exact ⟨by rw [trustB_no (fun h => c6 (h.2.2.2.2.2.1 c2).2)]; rfl, HBW.out⟩
   ·have c5' : (t5 == 0) = false := by simpa using c5
    go_wp2_with fail
    go_ret
    exact ⟨by rw [trustB_no (fun h => c5 (h.2.2.2.2.2.1 c2).1)]; rfl, HBW.out⟩
  ·have c2' : (t2 == 0) = false := by simpa using c2
   by_cases s3 : isSumP t3
   ·by_cases s4 : isSumP t4
    ·by_cases s5 : isSumP t5
     ·by_cases s6 : isSumP t6
      ·skip
       go_wp2_with fail
       refine (l7Sum_b t3 true _ (SumB.yes s3)).mono ?_; rintro e w' ⟨rfl, rfl⟩
       go_wp2_with fail
       refine (l7Sum_b t4 true _ (SumB.yes s4)).mono ?_; rintro e w' ⟨rfl, rfl⟩
       go_wp2_with fail
       refine (l7Sum_b t5 true _ (SumB.yes s5)).mono ?_; rintro e w' ⟨rfl, rfl⟩
       go_wp2_with fail
       refine (l7Sum_b t6 true _ (SumB.yes s6)).mono ?_; rintro e w' ⟨rfl, rfl⟩
       go_wp2_with fail
       go_ret
       exact ⟨by rw [trustB_yes ⟨hG.1, hG.2.1, hG.2.2.1, hG.2.2.2.1, hG.2.2.2.2, (fun h => absurd h c2), s3, s4, s5, s6⟩]; rfl, HBW.out⟩
      ·skip
       go_wp2_with fail
       refine (l7Sum_b t3 true _ (SumB.yes s3)).mono ?_; rintro e w' ⟨rfl, rfl⟩
       go_wp2_with fail
       refine (l7Sum_b t4 true _ (SumB.yes s4)).mono ?_; rintro e w' ⟨rfl, rfl⟩
       go_wp2_with fail
       refine (l7Sum_b t5 true _ (SumB.yes s5)).mono ?_; rintro e w' ⟨rfl, rfl⟩
       go_wp2_with fail
       refine (l7Sum_b t6 false _ (SumB.no s6)).mono ?_; rintro e w' ⟨rfl, rfl⟩
       go_wp2_with fail
       go_ret
       exact ⟨by rw [trustB_no (fun h => s6 h.2.2.2.2.2.2.2.2.2)]; rfl, HBW.out⟩
     ·skip
      go_wp2_with fail
      refine (l7Sum_b t3 true _ (SumB.yes s3)).mono ?_; rintro e w' ⟨rfl, rfl⟩
      go_wp2_with fail
      refine (l7Sum_b t4 true _ (SumB.yes s4)).mono ?_; rintro e w' ⟨rfl, rfl⟩
      go_wp2_with fail
      refine (l7Sum_b t5 false _ (SumB.no s5)).mono ?_; rintro e w' ⟨rfl, rfl⟩
      go_wp2_with fail
      go_ret
      exact ⟨by rw [trustB_no (fun h => s5 h.2.2.2.2.2.2.2.2.1)]; rfl, HBW.out⟩
    ·skip
     go_wp2_with fail
     refine (l7Sum_b t3 true _ (SumB.yes s3)).mono ?_; rintro e w' ⟨rfl, rfl⟩
     go_wp2_with fail
     refine (l7Sum_b t4 false _ (SumB.no s4)).mono ?_; rintro e w' ⟨rfl, rfl⟩
     go_wp2_with fail
     go_ret
     exact ⟨by rw [trustB_no (fun h => s4 h.2.2.2.2.2.2.2.1)]; rfl, HBW.out⟩
   ·skip
    go_wp2_with fail
    refine (l7Sum_b t3 false _ (SumB.no s3)).mono ?_; rintro e w' ⟨rfl, rfl⟩
    go_wp2_with fail
    go_ret
    exact ⟨by rw [trustB_no (fun h => s3 h.2.2.2.2.2.2.1)]; rfl, HBW.out⟩
 ·have hG : ¬ trustOk key l x ⟨t0, t1, t2, t3, t4, t5, t6, t7⟩ := fun h => by
    have := hz.2 ⟨h.1, h.2.1, h.2.2.1, h.2.2.2.1, h.2.2.2.2.1⟩
    cases this
  go_wp2_with fail
  go_ret
  exact ⟨by rw [trustB_no hG]; rfl, HBW.out⟩
open Go.ChangeShapes Go.WideShapes Go.ChangeAt Go.RowKit Go.Maps
section
variable (w : World) {ops : Array Oper} {rest : List Oper} {o : Oper} {a : Act} {Q : Exit → Act → World → Prop}
end
abbrev Tri := Int × Int × Int
def Tris (w : World) (B : Nat) (A : Option Addr) (L : List Tri) : Prop :=
 ∀ i, i < L.length → ∃ b off, A = some ⟨b, off, none⟩ ∧ b < B ∧ w.cell? ⟨b, off + i * 3, none⟩ = some (.int .i64 (L.getD i (0, 0, 0)).1) ∧ w.cell? ⟨b, off + i * 3 + 1, none⟩ = some (.int .i64 (L.getD i (0, 0, 0)).2.1) ∧ w.cell? ⟨b, off + i * 3 + 2, none⟩ = some (.int .i64 (L.getD i (0, 0, 0)).2.2)
theorem Tris.below {w w' : World} {B B' : Nat} {A : Option Addr} {L : List Tri} (h : Tris w B A L) (hb : Below B' w w') (hB : B ≤ B') : Tris w' B A L := by
 intro i hi
 obtain ⟨b, off, rfl, hlt, c0, c1, c2⟩ := h i hi
 have f := fun o => hb.cell (p := ⟨b, o, none⟩) (Nat.lt_of_lt_of_le hlt hB)
 exact ⟨b, off, rfl, hlt, (f _).trans c0, (f _).trans c1, (f _).trans c2⟩
theorem getD_mem {L : List Tri} {k : Nat} (h : k < L.length) : L.getD k (0, 0, 0) ∈ L := by
 rw [List.getD_eq_getElem?_getD, List.getElem?_eq_getElem h]; exact List.getElem_mem h
theorem take_snoc {L : List Tri} {k : Nat} (h : k < L.length) : L.take (k + 1) = L.take k ++ [L.getD k (0, 0, 0)] := by
 rw [List.take_succ_eq_append_getElem h, List.getD_eq_getElem?_getD, List.getElem?_eq_getElem h]; rfl
theorem info_tri3 : (Tryz.prog.info? 97).map (fun i => (i.zero, i.size, i.bytes)) = some (some (.agg #[.int .i64 0, .int .i64 0, .int .i64 0]), 3, 24) := by kernel_rfl
theorem info_parts3 : ∃ i, Tryz.prog.info? 97 = some i ∧ i.zero = some (.agg #[.int .i64 0, .int .i64 0, .int .i64 0]) ∧ i.size = 3 ∧ i.bytes = 24 := by
 obtain ⟨i, hi, hzz⟩ := Option.map_eq_some_iff.1 info_tri3
 simp only [Prod.mk.injEq] at hzz
 exact ⟨i, hi, hzz⟩
def TriM (L : List Tri) : Prop := ∀ T ∈ L, I64 T.1 ∧ I64 T.2.1 ∧ I64 T.2.2
theorem TriM.nil : TriM [] := fun T h => by cases h
theorem TriM.snoc {L : List Tri} {a t v : Int} (h : TriM L) (ha : I64 a) (ht : I64 t) (hv : I64 v) : TriM (L ++ [(a, t, v)]) := by
 intro T hT
 rcases List.mem_append.1 hT with h1 | h1
 ·exact h T h1
 ·rw [List.mem_singleton] at h1; subst h1; exact ⟨ha, ht, hv⟩
def flatT (L : List Tri) : List Value := L.flatMap fun T => [.int .i64 T.1, .int .i64 T.2.1, .int .i64 T.2.2]
theorem flatT_snoc (L : List Tri) (a t v : Int) : flatT (L ++ [(a, t, v)]) = flatT L ++ [.int .i64 a, .int .i64 t, .int .i64 v] := by simp [flatT]
theorem flatT_get (L : List Tri) (i j : Nat) (hi : i < L.length) (hj : j < 3) : (flatT L)[i * 3 + j]? = some (.int .i64 (if j = 0 then (L.getD i (0, 0, 0)).1 else if j = 1 then (L.getD i (0, 0, 0)).2.1 else (L.getD i (0, 0, 0)).2.2)) := by
 induction L generalizing i with
 | nil => simp at hi
 | cons T L ih =>
   have hc : flatT (T :: L) = .int .i64 T.1 :: .int .i64 T.2.1 :: .int .i64 T.2.2 :: flatT L := rfl
   rw [hc]
   cases i with
   | zero =>
     have h3 : j = 0 ∨ j = 1 ∨ j = 2 := by omega
     rcases h3 with rfl | rfl | rfl <;> simp
   | succ i =>
     rw [show (i + 1) * 3 + j = (i * 3 + j) + 1 + 1 + 1 by omega]
     simp only [List.getElem?_cons_succ]
     rw [ih i (by simpa using hi)]
     simp
def TRow (w : World) (base : Nat) (v : Value) (L : List Tri) : Prop := w.ownsRow base 97 3 v L.length (flatT L) ∧ TriM L
theorem TRow.alloc {w : World} {base : Nat} {v : Value} {L : List Tri} (h : TRow w base v L) (o : Obj) : TRow (w.alloc o) base v L := ⟨h.1.alloc o, h.2⟩
theorem TRow.snoc {w' : World} {base : Nat} {v : Value} {L : List Tri} {a t z : Int} (h : TriM L) (ha : I64 a) (ht : I64 t) (hz : I64 z)
    (hw : w'.ownsRow base 97 3 v (L.length + 1) (flatT L ++ [.int .i64 a, .int .i64 t, .int .i64 z])) : TRow w' base v (L ++ [(a, t, z)]) := by
 refine ⟨?_, h.snoc ha ht hz⟩
 rw [List.length_append, flatT_snoc]
 exact hw
theorem TRow.made (w : World) (base : Nat) (h : base ≤ w.heap.size) : TRow (w.alloc (.cells #[] 97)) base (.slice (some ⟨w.heap.size, 0, none⟩) 0 0) [] :=
 ⟨World.ownsRow_made w #[] 0 h (by simp [maxLen]) rfl, TriM.nil⟩
def Lies (w : World) (lo hi : Nat) (A : Option Addr) (L : List Tri) : Prop :=
 ∀ i, i < L.length → ∃ b off, A = some ⟨b, off, none⟩ ∧ lo ≤ b ∧ b < hi ∧ w.cell? ⟨b, off + i * 3, none⟩ = some (.int .i64 (L.getD i (0, 0, 0)).1) ∧ w.cell? ⟨b, off + i * 3 + 1, none⟩ = some (.int .i64 (L.getD i (0, 0, 0)).2.1) ∧ w.cell? ⟨b, off + i * 3 + 2, none⟩ = some (.int .i64 (L.getD i (0, 0, 0)).2.2)
theorem Lies.tris {w : World} {lo hi : Nat} {A : Option Addr} {L : List Tri} (h : Lies w lo hi A L) : Tris w hi A L := by
 intro i hi
 obtain ⟨b, off, e, _, h1, c⟩ := h i hi
 exact ⟨b, off, e, h1, c⟩
theorem TRow.lies {w : World} {base : Nat} {v : Value} {L : List Tri} (h : TRow w base v L) : ∃ A c, v = .slice A L.length c ∧ Lies w base w.heap.size A L := by
 rcases h.1.2 with ⟨rfl, hn⟩ | ⟨g, cap, cur, rfl, hb, hg, hnc, hcm, hcs, htake⟩
 ·have : L = [] := List.length_eq_zero_iff.1 hn
  subst this
  exact ⟨none, 0, rfl, fun i hi => by simp at hi⟩
 ·refine ⟨_, cap, rfl, fun i hi => ⟨g, 0, rfl, hb, (Array.getElem?_eq_some_iff.1 hg).1, ?_, ?_, ?_⟩⟩
  ·rw [Nat.zero_add, h.1.cellAt (i * 3) (by omega), show i * 3 = i * 3 + 0 from rfl, flatT_get L i 0 hi (by omega)]; rfl
  ·rw [Nat.zero_add, h.1.cellAt (i * 3 + 1) (by omega), flatT_get L i 1 hi (by omega)]; rfl
  ·rw [Nat.zero_add, h.1.cellAt (i * 3 + 2) (by omega), flatT_get L i 2 hi (by omega)]; rfl
abbrev Ce := Int × Int
theorem info_ce : (Tryz.prog.info? 55).map (fun i => (i.zero, i.size, i.bytes)) = some (some (.agg zC), 2, 16) := by kernel_rfl
theorem info_parts2 : ∃ i, Tryz.prog.info? 55 = some i ∧ i.zero = some (.agg zC) ∧ i.size = 2 ∧ i.bytes = 16 := by
 obtain ⟨i, hi, hzz⟩ := Option.map_eq_some_iff.1 info_ce
 simp only [Prod.mk.injEq] at hzz
 exact ⟨i, hi, hzz⟩
def flatC (L : List Ce) : List Value := L.flatMap fun T => [.int .i64 T.1, .int .i64 T.2]
theorem flatC_snoc (L : List Ce) (t v : Int) : flatC (L ++ [(t, v)]) = flatC L ++ [.int .i64 t, .int .i64 v] := by simp [flatC]
def CRow (w : World) (base : Nat) (v : Value) (L : List Ce) : Prop := w.ownsRow base 55 2 v L.length (flatC L)
theorem CRow.kept {w w' : World} {base : Nat} {r : Option Nat} {v : Value} {L : List Ce} (h : CRow w base v L) (hg : w.grownBy w' r) (hb : v.ownBlock = none ∨ v.ownBlock ≠ r) : CRow w' base v L := World.ownsRow.kept h hg hb
theorem CRow.grown {w w' : World} {base g : Nat} {v : Value} {L : List Ce} (h : CRow w base v L) (hg : w.grownBy w' (some g)) (hb : g < base) : CRow w' base v L := by
 refine World.ownsRow.kept h hg ?_
 cases e : v.ownBlock with
 | none => exact .inl rfl
 | some k => exact .inr (by intro e2; injection e2 with e2; have := (World.ownsRow.lt h k e).1; omega)
theorem CRow.alloc {w : World} {base : Nat} {v : Value} {L : List Ce} (h : CRow w base v L) (o : Obj) : CRow (w.alloc o) base v L := World.ownsRow.alloc h o
theorem CRow.below {w w' : World} {base : Nat} {v : Value} {L : List Ce} (h : CRow w base v L) (hb : Below w.heap.size w w') : CRow w' base v L :=
 h.kept (below_gb hb none) (by cases e : v.ownBlock with | none => exact .inl rfl | some k => exact .inr (by intro e2; cases e2))
theorem CRow.snoc {w' : World} {base : Nat} {v : Value} {L : List Ce} {t z : Int} (hw : w'.ownsRow base 55 2 v (L.length + 1) (flatC L ++ [.int .i64 t, .int .i64 z])) : CRow w' base v (L ++ [(t, z)]) := by
 unfold CRow
 rw [List.length_append, flatC_snoc]
 exact hw
theorem CRow.made (w : World) (base : Nat) (h : base ≤ w.heap.size) : CRow (w.alloc (.cells #[] 55)) base (.slice (some ⟨w.heap.size, 0, none⟩) 0 0) [] := World.ownsRow_made w #[] 0 h (by simp [maxLen]) rfl
theorem CRow.mono {w : World} {base base' : Nat} {v : Value} {L : List Ce} (h : CRow w base v L) (hb : base' ≤ base) : CRow w base' v L := by
 refine ⟨h.1, ?_⟩
 rcases h.2 with h0 | ⟨g, cap, cur, e, hg, r⟩
 ·exact .inl h0
 ·exact .inr ⟨g, cap, cur, e, Nat.le_trans hb hg, r⟩
theorem TRow.below {w w' : World} {base : Nat} {v : Value} {L : List Tri} (h : TRow w base v L) (hb : Below w.heap.size w w') : TRow w' base v L :=
 ⟨h.1.kept (below_gb hb none) (by cases e : v.ownBlock with | none => exact .inl rfl | some k => exact .inr (by intro e2; cases e2)), h.2⟩
instance : Inhabited Tru := ⟨⟨0, 0, 0, 0, 0, 0, 0, false⟩⟩
def truV (t : Tru) : List Value := [.int .i64 t.clock, .int .i64 t.epoch, .int .i64 t.cursor, .int .i64 t.read, .int .i64 t.written, .int .i64 t.nread, .int .i64 t.nwritten, .bool t.failed]
theorem truV_len (t : Tru) : (truV t).length = 8 := rfl
def ceV (c : Ce) : List Value := [.int .i64 c.1, .int .i64 c.2]
theorem ceV_len (c : Ce) : (ceV c).length = 2 := rfl
abbrev Trs (w : World) (B : Nat) (A : Option Addr) (L : List Tru) : Prop := Sls truV 8 w B A L
abbrev Cls (w : World) (B : Nat) (A : Option Addr) (L : List Ce) : Prop := Sls ceV 2 w B A L
abbrev TrRow (w : World) (base : Nat) (v : Value) (L : List Tru) : Prop := SRow truV 8 67 w base v L
abbrev ClRow (w : World) (base : Nat) (v : Value) (L : List Ce) : Prop := SRow ceV 2 55 w base v L
theorem info_tru : (Tryz.prog.info? 67).map (fun i => (i.zero, i.size, i.bytes)) = some (some (.agg zT), 8, 64) := by kernel_rfl
theorem info_cel : (Tryz.prog.info? 55).map (fun i => (i.zero, i.size, i.bytes)) = some (some (.agg zC), 2, 16) := by kernel_rfl
theorem truV_one (L : List Tru) : ∀ u ∈ flatS truV L, u.oneCell' = true := by
 intro u hu
 unfold flatS at hu
 obtain ⟨t, _, h⟩ := List.mem_flatMap.1 hu
 simp [truV] at h
 rcases h with rfl | rfl | rfl | rfl | rfl | rfl | rfl | rfl <;> rfl
theorem ceV_one (L : List Ce) : ∀ u ∈ flatS ceV L, u.oneCell' = true := by
 intro u hu
 unfold flatS at hu
 obtain ⟨t, _, h⟩ := List.mem_flatMap.1 hu
 simp [ceV] at h
 rcases h with rfl | rfl <;> rfl
def NewTr (b : World) (L : List Tru) (e : Ending) (w' : World) : Prop := ∃ v, e = .returned v ∧ TrRow w' b.heap.size v L ∧ Below b.heap.size b w'
set_option maxHeartbeats 1000000 in
theorem l10Copy_calls (A : Option Addr) (L : List Tru) (cap : Nat) (w : World) (hn : L.length ≤ 1048576) (hA : Trs w w.heap.size A L) :
    Calls Tryz.prog 32 #[.slice A L.length cap] w (NewTr w L) := by
 have HB := Lib.hid ((Below.refl w.heap.size w).alloc (Nat.le_refl _) (.cells #[] 67))
 have HA := Lib.hid ((hA.grow HB.out).news truV_len (by omega))
 have HR := Lib.hid (SRow.made (enc := truV) (n := 8) (T := 67) w (Nat.le_refl _))
 have hl : (flatS truV L).length = L.length * 8 := flatS_length truV_len
 have h1 := truV_one L
 clear hA
 go_enter Tryz.func32, Tryz.ntmps32
 go_wp2_with (at_builtin; refine wpList_append_row rfl _ _ 27 rfl w.heap.size 67 8 64 0 (.agg zT) (.slice (some ⟨w.heap.size, 0, none⟩) 0 0) [] A L.length cap (flatS truV L) Tryz.underlying27 info_tru rfl (by omega) rfl HR.out rfl hl HA.out h1 (by unfold maxLen; omega) (by omega) (by simp) ?_)
 intro v' w' hown hg _
 have hb : Below w.heap.size w w' := bgb HB.out (g := w.heap.size) (by simpa [Value.ownBlock] using hg) (by simp) (Nat.le_refl _)
 go_wp2_with fail
 go_ret
 exact ⟨_, rfl, hown, hb⟩
theorem IsRegion.up {l : List Int} {x r : Int} (h : IsRegion l x r) (hr : 0 ≤ r) : ∃ i : Nat, r = i ∧ i < l.length ∧ upTo l i ≤ x ∧ x < upTo l (i + 1) := by
 rcases h with ⟨i, hi, rfl, h0, h1⟩ | ⟨rfl, _⟩
 ·exact ⟨i, rfl, hi, h0, h1⟩
 ·omega
theorem regionOf_up {key x : Int} {l : List Int} (h : 0 ≤ regionOf key l x) : ∃ i : Nat, regionOf key l x = i ∧ i < l.length ∧ planOk key l ∧ 0 ≤ x ∧ upTo l i ≤ x ∧ x < upTo l (i + 1) := by
 by_cases hp : planOk key l ∧ 0 ≤ x
 ·have hr : IsRegion l x (regionOf key l x) := by
    unfold regionOf; rw [if_pos hp]
    exact regionFrom_is l.length 0 (by omega) (by rw [upTo_zero]; exact hp.2)
  obtain ⟨i, e, hi, h0, h1⟩ := hr.up h
  exact ⟨i, e, hi, hp.1, hp.2, h0, h1⟩
 ·rw [regionOf_no hp] at h; omega
noncomputable def behindB (key : Int) (l : List Int) (cursor x : Int) : Bool := decide (0 ≤ regionOf key l x) && decide (x - firstOf key l (regionOf key l x) < cursor)
set_option maxRecDepth 20000 in
set_option maxHeartbeats 2000000 in
theorem specBehind_calls (key x : Int) (A : Option Addr) (l : List Int) (cap : Nat) (t0 t1 t2 t3 t4 t5 t6 : Int) (t7 : Bool) (w : World) (hn : l.length ≤ maxLen) (hcap : l.length ≤ cap) (hA : Ints w .i64 w.heap.size A l) (hx : I64 x) :
    Calls Tryz.prog 100 #[.agg (pA key A l.length cap), .agg (tA t0 t1 t2 t3 t4 t5 t6 t7), .int .i64 x] w fun e w' => e = .returned (.bool (behindB key l t2 x)) ∧ Below w.heap.size w w' := by
 have k0 := ((Kept.refl w).new 26 (pA key A l.length cap)).new 67 (tA t0 t1 t2 t3 t4 t5 t6 t7)
 rw [show (w.alloc (.cells (pA key A l.length cap) 26)).heap.size = w.heap.size + 1 by simp] at k0
 have R := Lib.hid (fun (u : World) (hb : Below w.heap.size w u) => specRegion_calls key x A l cap u hn hcap ((hA.below hb (Nat.le_refl _)).more hb.size))
 have F := Lib.hid (fun (u : World) (r : Int) (hb : Below w.heap.size w u) => specFirst_calls key r A l cap u hn hcap ((hA.below hb (Nat.le_refl _)).more hb.size))
 have K0 := Lib.hid k0
 clear hA hn k0
 unfold behindB
 by_cases hr : 0 ≤ regionOf key l x
 ·obtain ⟨i, e, hi, hp, hx0, hu0, hu1⟩ := regionOf_up hr
  have hb := upTo_bd hp.2.2.1 (show i ≤ l.length by omega)
  rw [e] at R ⊢
  rw [firstOf_yes hp hi]
  have FI := Lib.hid (fun u hb => F.out u i hb)
  rw [firstOf_yes hp hi] at FI
  have hx1 := hx.2
  have hi0 : (0 : Int) ≤ i := by omega
  have hwr : IntKind.i64.wrap (x - upTo l i) = x - upTo l i := IntWalk.i64_in _ (by omega)
  rw [decide_eq_true hi0, Bool.true_and]
  generalize upTo l i = f at FI hwr
  clear hr e hp hu0 hu1 hb F hx hx0 hx1
  go_enter Tryz.func100, Tryz.ntmps100
  go_wp2_with fail
  refine (R.out _ K0.out.1).mono ?_; rintro e w1 ⟨rfl, b1⟩
  have k1 := (K0.out.below b1).drew
  have P1 := Lib.hid (fun (u : World) (h : Kept w [(w.heap.size + 1, 67, (tA t0 t1 t2 t3 t4 t5 t6 t7)), (w.heap.size, 26, (pA key A l.length cap))] u) => (FI.out u h.1).mono (fun e w' ⟨he, hb⟩ => (⟨he, h.below hb⟩ : _ ∧ Kept w [(w.heap.size + 1, 67, (tA t0 t1 t2 t3 t4 t5 t6 t7)), (w.heap.size, 26, (pA key A l.length cap))] w')))
  clear b1 R FI K0
  go_upto_region 2 with fail
  refine wp_region_class (C := fun u => Kept w [(w.heap.size + 1, 67, (tA t0 t1 t2 t3 t4 t5 t6 t7)), (w.heap.size, 26, (pA key A l.length cap))] u) (by kernel_rfl) (by kernel_rfl) k1 ?_
  iterate 13 (first
   | go_big_quiet_skip
   | (go_big_quiet_want
      go_big_quiet_op
      first
       | go_big_quiet_on
       | (apply Exists.intro
          refine ⟨fun u hu => ?_, ?_⟩
          ·first
             | with_reducible rfl
             | (go_at_call 49; exact P1.out u hu)
             | (have e0 := hu.cell (p := w.heap.size) (t := 26) (cs := (pA key A l.length cap)) (by simp) 0; have e1 := hu.cell (p := w.heap.size) (t := 26) (cs := (pA key A l.length cap)) (by simp) 1; have e2 := hu.cell (p := w.heap.size + 1) (t := 67) (cs := (tA t0 t1 t2 t3 t4 t5 t6 t7)) (by simp) 2; simp only [List.getElem?_toArray, List.getElem?_cons_zero, List.getElem?_cons_succ] at e0 e1 e2; go_simp; first | done | with_reducible rfl)
          go_big_quiet_on)))
  refine wpQuiet_nil ?_
  intro wz hz
  go_wp2_with fail
  go_ret
  exact ⟨rfl, hz.1⟩
 ·have hr' : regionOf key l x < 0 := by omega
  have hr2 : (regionOf key l x : Int) ≤ -1 := by omega
  have hd : decide (0 ≤ regionOf key l x) = false := decide_eq_false hr
  rw [hd, Bool.false_and]
  generalize regionOf key l x = r at R hd hr'
  clear hr hr2 hr' F
  go_enter Tryz.func100, Tryz.ntmps100
  go_wp2_with fail
  refine (R.out _ K0.out.1).mono ?_; rintro e w1 ⟨rfl, b1⟩
  have k1 := (K0.out.below b1).drew
  clear b1 R K0
  go_upto_region 2 with fail
  refine wp_region_class (C := fun u => Kept w [(w.heap.size + 1, 67, (tA t0 t1 t2 t3 t4 t5 t6 t7)), (w.heap.size, 26, (pA key A l.length cap))] u) (by kernel_rfl) (by kernel_rfl) k1 ?_
  iterate 13 (first
   | go_big_quiet_skip
   | (go_big_quiet_want
      go_big_quiet_op
      first
       | go_big_quiet_on
       | (apply Exists.intro
          refine ⟨fun u hu => ?_, ?_⟩
          ·first
             | with_reducible rfl
             | (have e0 := hu.cell (p := w.heap.size) (t := 26) (cs := (pA key A l.length cap)) (by simp) 0; have e1 := hu.cell (p := w.heap.size) (t := 26) (cs := (pA key A l.length cap)) (by simp) 1; have e2 := hu.cell (p := w.heap.size + 1) (t := 67) (cs := (tA t0 t1 t2 t3 t4 t5 t6 t7)) (by simp) 2; simp only [List.getElem?_toArray, List.getElem?_cons_zero, List.getElem?_cons_succ] at e0 e1 e2; go_simp; first | done | with_reducible rfl)
          go_big_quiet_on)))
  refine wpQuiet_nil ?_
  intro wz hz
  go_wp2_with fail
  go_ret
  exact ⟨rfl, hz.1⟩
end Go.Proofs.YtjbnknccnhdapaaGreat.Mx

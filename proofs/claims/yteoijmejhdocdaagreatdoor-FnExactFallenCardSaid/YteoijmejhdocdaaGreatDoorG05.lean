import Derived.Test.YteoijmejhdocdaaGreatDoorG03
import Derived.Test.YteoijmejhdocdaaGreatDoorG04
import Derived.Test.YteoijmejhdocdaaGreatDoorG01
import Derived.Deep.RegionHeld3
import Derived.Deep.CutRange
namespace Go.Proofs.YteoijmejhdocdaaGreatDoor.Mx
open Go.ChangeShapes Go.WideShapes Go.ChangeAt Go.RowKit
set_option linter.unusedVariables false
structure Tru where
  clock : Int
  epoch : Int
  cursor : Int
  read : Int
  written : Int
  nread : Int
  nwritten : Int
  failed : Bool
abbrev tR (t : Tru) : Array Value := #[.int .i64 t.clock, .int .i64 t.epoch, .int .i64 t.cursor, .int .i64 t.read, .int .i64 t.written, .int .i64 t.nread, .int .i64 t.nwritten, .bool t.failed]
def isSumP (s : Int) : Prop := 0 ≤ s ∧ s ≤ 4611686018427387903
instance (s : Int) : Decidable (isSumP s) := inferInstanceAs (Decidable (_ ∧ _))
def trustOk (key : Int) (l : List Int) (r : Int) (t : Tru) : Prop :=
  planOk key l ∧ (0 ≤ r ∧ r < l.length) ∧ isTm t.clock ∧ (0 ≤ t.epoch ∧ t.epoch ≤ 1000) ∧ (0 ≤ t.cursor ∧ t.cursor ≤ l.getD r.toNat 0 - 1) ∧
  (t.cursor = 0 → t.nread = 0 ∧ t.nwritten = 0) ∧ isSumP t.read ∧ isSumP t.written ∧ isSumP t.nread ∧ isSumP t.nwritten
open Classical in
noncomputable def trustB (key : Int) (l : List Int) (r : Int) (t : Tru) : Bool := decide (trustOk key l r t)
open Classical in
theorem trustB_yes {key : Int} {l : List Int} {r : Int} {t : Tru} (h : trustOk key l r t) : trustB key l r t = true := by unfold trustB; exact decide_eq_true h
open Classical in
theorem trustB_no {key : Int} {l : List Int} {r : Int} {t : Tru} (h : ¬ trustOk key l r t) : trustB key l r t = false := by unfold trustB; exact decide_eq_false h
def InB (s lo hi : Int) (z : Bool) : Prop := z = decide (lo ≤ s ∧ s ≤ hi)
theorem InB.yes {s lo hi : Int} (h0 : lo ≤ s) (h1 : s ≤ hi) : InB s lo hi true := (decide_eq_true ⟨h0, h1⟩).symm
theorem InB.no {s lo hi : Int} (h : ¬ (lo ≤ s ∧ s ≤ hi)) : InB s lo hi false := (decide_eq_false h).symm
theorem l1In_b (s lo hi : Int) (z : Bool) (w : World) (h : InB s lo hi z) :
    Calls Tryz.prog 82 #[.int .i64 s, .int .i64 lo, .int .i64 hi] w fun e w' => e = .returned (.bool z) ∧ w = w' := by
  unfold InB at h
  subst h
  by_cases hc : lo ≤ s ∧ s ≤ hi
  · rw [decide_eq_true hc]; exact l1In_yes s lo hi w hc.1 hc.2
  · rw [decide_eq_false hc]; exact l1In_no s lo hi w (by omega)
def TmB (s : Int) (z : Bool) : Prop := z = decide (isTm s)
theorem TmB.yes {s : Int} (h : isTm s) : TmB s true := (decide_eq_true h).symm
theorem TmB.no {s : Int} (h : ¬ isTm s) : TmB s false := (decide_eq_false h).symm
theorem l3Time_b (s : Int) (z : Bool) (w : World) (h : TmB s z) :
    Calls Tryz.prog 167 #[.int .i64 s] w fun e w' => e = .returned (.bool z) ∧ w = w' := by
  unfold TmB at h
  subst h
  by_cases hc : isTm s
  · rw [decide_eq_true hc]; exact l3Time_yes s w hc
  · rw [decide_eq_false hc]; exact l3Time_no s w hc
def SumB (s : Int) (z : Bool) : Prop := z = decide (isSumP s)
theorem SumB.yes {s : Int} (h : isSumP s) : SumB s true := (decide_eq_true h).symm
theorem SumB.no {s : Int} (h : ¬ isSumP s) : SumB s false := (decide_eq_false h).symm
theorem l7Sum_b (s : Int) (z : Bool) (w : World) (h : SumB s z) :
    Calls Tryz.prog 221 #[.int .i64 s] w fun e w' => e = .returned (.bool z) ∧ w = w' := by
  have C := Lib.hid (fun w => l1In_b s 0 4611686018427387903 z w h)
  clear h
  go_enter Tryz.func221, Tryz.ntmps221
  go_wp2_with fail
  refine (C.out _).mono ?_; rintro e w' ⟨rfl, rfl⟩
  go_wp2_with fail
  go_ret
  exact ⟨rfl, rfl⟩
def TrS (b : World) (p q : Nat) (cs ds : Array Value) (c : Addr) (x : Value) (w : World) : Prop :=
  Below b.heap.size b w ∧ CellsAt w p 26 cs ∧ CellsAt w q 94 ds ∧ c.block < w.heap.size ∧ w.cell? c = some x
section
variable {b w w' : World} {p q : Nat} {u v x0 x1 x2 x3 x4 x5 x6 x7 x : Value} {c : Addr}
theorem TrS.cells (h : TrS b p q #[u, v] #[x0, x1, x2, x3, x4, x5, x6, x7] c x w) :
    (w.cell? ⟨p, 0, none⟩ = some u ∧ w.cell? ⟨p, 1, none⟩ = some v ∧ w.cell? ⟨q, 0, none⟩ = some x0 ∧ w.cell? ⟨q, 1, none⟩ = some x1 ∧ w.cell? ⟨q, 2, none⟩ = some x2 ∧ w.cell? c = some x) ∧ TrS b p q #[u, v] #[x0, x1, x2, x3, x4, x5, x6, x7] c x w :=
  ⟨⟨h.2.1.cell 0, h.2.1.cell 1, h.2.2.1.cell 0, h.2.2.1.cell 1, h.2.2.1.cell 2, h.2.2.2.2⟩, h⟩
theorem TrS.keep (hb : Below w.heap.size w w')
    (h : (w.cell? ⟨p, 0, none⟩ = some u ∧ w.cell? ⟨p, 1, none⟩ = some v ∧ w.cell? ⟨q, 0, none⟩ = some x0 ∧ w.cell? ⟨q, 1, none⟩ = some x1 ∧ w.cell? ⟨q, 2, none⟩ = some x2 ∧ w.cell? c = some x) ∧ TrS b p q #[u, v] #[x0, x1, x2, x3, x4, x5, x6, x7] c x w) :
    (w'.cell? ⟨p, 0, none⟩ = some u ∧ w'.cell? ⟨p, 1, none⟩ = some v ∧ w'.cell? ⟨q, 0, none⟩ = some x0 ∧ w'.cell? ⟨q, 1, none⟩ = some x1 ∧ w'.cell? ⟨q, 2, none⟩ = some x2 ∧ w'.cell? c = some x) ∧ TrS b p q #[u, v] #[x0, x1, x2, x3, x4, x5, x6, x7] c x w' :=
  TrS.cells ⟨h.2.1.trans (hb.mono h.2.1.size), h.2.2.1.below hb h.2.2.1.lt, h.2.2.2.1.below hb h.2.2.2.1.lt, Nat.lt_of_lt_of_le h.2.2.2.2.1 hb.size, (hb.cell h.2.2.2.2.1).trans h.2.2.2.2.2⟩
end
set_option maxRecDepth 20000 in
set_option maxHeartbeats 4000000 in
theorem specTrustOk_calls (key x : Int) (A : Option Addr) (l : List Int) (cap : Nat) (t0 t1 t2 t3 t4 t5 t6 : Int) (t7 : Bool) (w : World) (hn : l.length ≤ maxLen) (hA : Ints w .i64 w.heap.size A l) :
    Calls Tryz.prog 160 #[.agg (pA key A l.length cap), .int .i64 x, .agg (tA t0 t1 t2 t3 t4 t5 t6 t7)] w fun e w' => e = .returned (.bool (trustB key l x ⟨t0, t1, t2, t3, t4, t5, t6, t7⟩)) ∧ Below w.heap.size w w' := by
  have hm := hn
  unfold maxLen at hm
  have b0 : Below w.heap.size w ((w.alloc (.cells (pA key A l.length cap) 26)).alloc (.cells (tA t0 t1 t2 t3 t4 t5 t6 t7) 94)) := ((Below.refl w.heap.size w).alloc (Nat.le_refl _) _).alloc (by simp) _
  have kp : CellsAt ((w.alloc (.cells (pA key A l.length cap) 26)).alloc (.cells (tA t0 t1 t2 t3 t4 t5 t6 t7) 94)) w.heap.size 26 (pA key A l.length cap) := CellsAt.grown (CellsAt.new w _ _) (World.grownBy_alloc _ _ none) (by simp)
  have kq : CellsAt ((w.alloc (.cells (pA key A l.length cap) 26)).alloc (.cells (tA t0 t1 t2 t3 t4 t5 t6 t7) 94)) (w.heap.size + 1) 94 (tA t0 t1 t2 t3 t4 t5 t6 t7) := by
    have h := CellsAt.new (w.alloc (.cells (pA key A l.length cap) 26)) 94 (tA t0 t1 t2 t3 t4 t5 t6 t7)
    rwa [show (w.alloc (.cells (pA key A l.length cap) 26)).heap.size = w.heap.size + 1 by simp] at h
  have HA := Lib.hid hA
  have PO := Lib.hid (fun (u : World) (hb : Below w.heap.size w u) => specPlanOk_calls key A l cap u hn ((hA.below hb (Nat.le_refl _)).more hb.size))
  have EI := Lib.hid (fun (s lo hi : Int) (z : Bool) (h : InB s lo hi z) (u : World) => l1In_b s lo hi z u h)
  have ET := Lib.hid (fun (s : Int) (z : Bool) (h : TmB s z) (u : World) => l3Time_b s z u h)
  have T0 := Lib.hid (show TrS w w.heap.size (w.heap.size + 1) (pA key A l.length cap) (tA t0 t1 t2 t3 t4 t5 t6 t7) ⟨w.heap.size, 0, none⟩ (.int .i64 key) ((w.alloc (.cells (pA key A l.length cap) 26)).alloc (.cells (tA t0 t1 t2 t3 t4 t5 t6 t7) 94)).drew from ⟨b0.drew, kp.drew, kq.drew, by simp; omega, kp.cell 0⟩)
  have TF := Lib.hid (fun (hb : Below w.heap.size w ((w.alloc (.cells (pA key A l.length cap) 26)).alloc (.cells (tA t0 t1 t2 t3 t4 t5 t6 t7) 94))) => (show ∀ (bb oo : Nat) (z : Int), A = some ⟨bb, oo, none⟩ → bb < w.heap.size → w.cell? ⟨bb, oo + x.toNat, none⟩ = some (.int .i64 z) → TrS w w.heap.size (w.heap.size + 1) (pA key A l.length cap) (tA t0 t1 t2 t3 t4 t5 t6 t7) ⟨bb, oo + x.toNat, none⟩ (.int .i64 z) ((w.alloc (.cells (pA key A l.length cap) 26)).alloc (.cells (tA t0 t1 t2 t3 t4 t5 t6 t7) 94)).drew from
    fun bb oo z _ hlt hc => ⟨hb.drew, kp.drew, kq.drew, by simp; omega, (hb.cell (p := ⟨bb, oo + x.toNat, none⟩) hlt).trans hc⟩))
  have B0 := Lib.hid b0
  have hwl : IntKind.i64.wrap ((l.length : Int) - 1) = l.length - 1 := IntWalk.i64_in _ (by omega)
  clear hA hn b0 kp kq
  go_enter Tryz.func160, Tryz.ntmps160
  go_upto_region 1 with fail
  go_cut [42] from 7 (fun s u => ∃ z : Bool, s = .bool z ∧ (z = false ↔ (planOk key l ∧ (0 ≤ x ∧ x < l.length) ∧ isTm t0 ∧ (0 ≤ t1 ∧ t1 ≤ 1000) ∧ 0 ≤ t2 ∧ t2 ≤ l.getD x.toNat 0 - 1)) ∧ Below w.heap.size w u ∧ CellsAt u (w.heap.size + 1) 94 (tA t0 t1 t2 t3 t4 t5 t6 t7))
  case first =>
    by_cases hp : planOk key l
    · by_cases hx : 0 ≤ x ∧ x < l.length
      · obtain ⟨r, rfl⟩ : ∃ r : Nat, x = r := ⟨x.toNat, by omega⟩
        have hr : r < l.length := by omega
        have hr' : (r : Int) < l.length := by omega
        have hr0 : (0 : Int) ≤ r := by omega
        obtain ⟨bb, oo, rfl, hbb, hcc⟩ := HA.out r hr
        have hv := hp.2.2.1 r hr
        have T1 := Lib.hid (TF.out B0.out bb oo (l.getD r 0) rfl hbb (by simpa using hcc))
        rw [show ((r : Int)).toNat = r by simp] at T1
        have hi : InB r 0 (l.length - 1) true := InB.yes (by omega) (by omega)
        obtain ⟨v, hvv⟩ : ∃ v, v = l.getD r 0 := ⟨_, rfl⟩
        rw [← hvv] at hcc hv T1
        have HV := Lib.hid (show l.getD ((r : Int)).toNat 0 = v by rw [hvv]; simp)
        clear hvv
        obtain ⟨v0, v1⟩ := hv
        have hwv : IntKind.i64.wrap (v - 1) = v - 1 := IntWalk.i64_in _ (by omega)
        by_cases h0 : isTm t0
        · have g0 : TmB t0 true := TmB.yes h0
          by_cases h1 : 0 ≤ t1 ∧ t1 ≤ 1000
          · have g1 : InB t1 0 1000 true := InB.yes h1.1 h1.2
            by_cases h2 : 0 ≤ t2 ∧ t2 ≤ v - 1
            · have g2 : InB t2 0 (v - 1) true := InB.yes h2.1 h2.2
              have P1 := Lib.hid (fun (u : World) (h : TrS w w.heap.size (w.heap.size + 1) (pA key (some ⟨bb, oo, none⟩) l.length cap) (tA t0 t1 t2 t3 t4 t5 t6 t7) ⟨bb, oo + r, none⟩ (.int .i64 v) u) => (PO.out u h.1).mono (fun e w' ⟨he, hb⟩ => (⟨he, (TrS.keep hb (TrS.cells h)).2⟩ : _ ∧ TrS w w.heap.size (w.heap.size + 1) (pA key (some ⟨bb, oo, none⟩) l.length cap) (tA t0 t1 t2 t3 t4 t5 t6 t7) ⟨bb, oo + r, none⟩ (.int .i64 v) w')))
              rw [okB_yes hp] at P1
              refine wp_region_class (C := fun u => TrS w w.heap.size (w.heap.size + 1) (pA key (some ⟨bb, oo, none⟩) l.length cap) (tA t0 t1 t2 t3 t4 t5 t6 t7) ⟨bb, oo + r, none⟩ (.int .i64 v) u) (by kernel_rfl) (by kernel_rfl) T1.out ?_
              iterate 36 (first
                | go_big_quiet_skip
                | (go_big_quiet_want
                   go_big_quiet_op
                   first
                     | go_big_quiet_on
                     | (apply Exists.intro
                        refine ⟨fun u hu => ?_, ?_⟩
                        · first
                            | with_reducible rfl
                            | (go_at_call 71; exact P1.out u hu)
                            | (go_at_call 82; exact class_same hu (EI.out _ _ _ _ ‹InB _ _ _ _› u))
                            | (go_at_call 167; exact class_same hu (ET.out _ _ ‹TmB _ _› u))
                            | (obtain ⟨⟨e0, e1, e2, e3, e4, e5⟩, -⟩ := TrS.cells hu; go_simp; first | done | with_reducible rfl)
                        go_big_quiet_on)))
              refine wpQuiet_nil ?_
              intro wz hz
              go_wp2_with fail
              go_meet
              exact ⟨_, rfl, ⟨fun _ => ⟨hp, ⟨by omega, by omega⟩, h0, h1, by rw [HV.out]; exact h2⟩, fun _ => rfl⟩, hz.1, hz.2.2.1⟩
            · have g2 : InB t2 0 (v - 1) false := InB.no h2
              have P1 := Lib.hid (fun (u : World) (h : TrS w w.heap.size (w.heap.size + 1) (pA key (some ⟨bb, oo, none⟩) l.length cap) (tA t0 t1 t2 t3 t4 t5 t6 t7) ⟨bb, oo + r, none⟩ (.int .i64 v) u) => (PO.out u h.1).mono (fun e w' ⟨he, hb⟩ => (⟨he, (TrS.keep hb (TrS.cells h)).2⟩ : _ ∧ TrS w w.heap.size (w.heap.size + 1) (pA key (some ⟨bb, oo, none⟩) l.length cap) (tA t0 t1 t2 t3 t4 t5 t6 t7) ⟨bb, oo + r, none⟩ (.int .i64 v) w')))
              rw [okB_yes hp] at P1
              refine wp_region_class (C := fun u => TrS w w.heap.size (w.heap.size + 1) (pA key (some ⟨bb, oo, none⟩) l.length cap) (tA t0 t1 t2 t3 t4 t5 t6 t7) ⟨bb, oo + r, none⟩ (.int .i64 v) u) (by kernel_rfl) (by kernel_rfl) T1.out ?_
              iterate 36 (first
                | go_big_quiet_skip
                | (go_big_quiet_want
                   go_big_quiet_op
                   first
                     | go_big_quiet_on
                     | (apply Exists.intro
                        refine ⟨fun u hu => ?_, ?_⟩
                        · first
                            | with_reducible rfl
                            | (go_at_call 71; exact P1.out u hu)
                            | (go_at_call 82; exact class_same hu (EI.out _ _ _ _ ‹InB _ _ _ _› u))
                            | (go_at_call 167; exact class_same hu (ET.out _ _ ‹TmB _ _› u))
                            | (obtain ⟨⟨e0, e1, e2, e3, e4, e5⟩, -⟩ := TrS.cells hu; go_simp; first | done | with_reducible rfl)
                        go_big_quiet_on)))
              refine wpQuiet_nil ?_
              intro wz hz
              go_wp2_with fail
              go_meet
              exact ⟨_, rfl, ⟨fun h => (by cases h), fun h => absurd (by have h5 := h.2.2.2.2; rw [HV.out] at h5; exact h5) h2⟩, hz.1, hz.2.2.1⟩
          · have g1 : InB t1 0 1000 false := InB.no h1
            have P1 := Lib.hid (fun (u : World) (h : TrS w w.heap.size (w.heap.size + 1) (pA key (some ⟨bb, oo, none⟩) l.length cap) (tA t0 t1 t2 t3 t4 t5 t6 t7) ⟨bb, oo + r, none⟩ (.int .i64 v) u) => (PO.out u h.1).mono (fun e w' ⟨he, hb⟩ => (⟨he, (TrS.keep hb (TrS.cells h)).2⟩ : _ ∧ TrS w w.heap.size (w.heap.size + 1) (pA key (some ⟨bb, oo, none⟩) l.length cap) (tA t0 t1 t2 t3 t4 t5 t6 t7) ⟨bb, oo + r, none⟩ (.int .i64 v) w')))
            rw [okB_yes hp] at P1
            refine wp_region_class (C := fun u => TrS w w.heap.size (w.heap.size + 1) (pA key (some ⟨bb, oo, none⟩) l.length cap) (tA t0 t1 t2 t3 t4 t5 t6 t7) ⟨bb, oo + r, none⟩ (.int .i64 v) u) (by kernel_rfl) (by kernel_rfl) T1.out ?_
            iterate 36 (first
              | go_big_quiet_skip
              | (go_big_quiet_want
                 go_big_quiet_op
                 first
                   | go_big_quiet_on
                   | (apply Exists.intro
                      refine ⟨fun u hu => ?_, ?_⟩
                      · first
                          | with_reducible rfl
                          | (go_at_call 71; exact P1.out u hu)
                          | (go_at_call 82; exact class_same hu (EI.out _ _ _ _ ‹InB _ _ _ _› u))
                          | (go_at_call 167; exact class_same hu (ET.out _ _ ‹TmB _ _› u))
                          | (obtain ⟨⟨e0, e1, e2, e3, e4, e5⟩, -⟩ := TrS.cells hu; go_simp; first | done | with_reducible rfl)
                      go_big_quiet_on)))
            refine wpQuiet_nil ?_
            intro wz hz
            go_wp2_with fail
            go_meet
            exact ⟨_, rfl, ⟨fun h => (by cases h), fun h => absurd h.2.2.2.1 h1⟩, hz.1, hz.2.2.1⟩
        · have g0 : TmB t0 false := TmB.no h0
          have P1 := Lib.hid (fun (u : World) (h : TrS w w.heap.size (w.heap.size + 1) (pA key (some ⟨bb, oo, none⟩) l.length cap) (tA t0 t1 t2 t3 t4 t5 t6 t7) ⟨bb, oo + r, none⟩ (.int .i64 v) u) => (PO.out u h.1).mono (fun e w' ⟨he, hb⟩ => (⟨he, (TrS.keep hb (TrS.cells h)).2⟩ : _ ∧ TrS w w.heap.size (w.heap.size + 1) (pA key (some ⟨bb, oo, none⟩) l.length cap) (tA t0 t1 t2 t3 t4 t5 t6 t7) ⟨bb, oo + r, none⟩ (.int .i64 v) w')))
          rw [okB_yes hp] at P1
          refine wp_region_class (C := fun u => TrS w w.heap.size (w.heap.size + 1) (pA key (some ⟨bb, oo, none⟩) l.length cap) (tA t0 t1 t2 t3 t4 t5 t6 t7) ⟨bb, oo + r, none⟩ (.int .i64 v) u) (by kernel_rfl) (by kernel_rfl) T1.out ?_
          iterate 36 (first
            | go_big_quiet_skip
            | (go_big_quiet_want
               go_big_quiet_op
               first
                 | go_big_quiet_on
                 | (apply Exists.intro
                    refine ⟨fun u hu => ?_, ?_⟩
                    · first
                        | with_reducible rfl
                        | (go_at_call 71; exact P1.out u hu)
                        | (go_at_call 82; exact class_same hu (EI.out _ _ _ _ ‹InB _ _ _ _› u))
                        | (go_at_call 167; exact class_same hu (ET.out _ _ ‹TmB _ _› u))
                        | (obtain ⟨⟨e0, e1, e2, e3, e4, e5⟩, -⟩ := TrS.cells hu; go_simp; first | done | with_reducible rfl)
                    go_big_quiet_on)))
          refine wpQuiet_nil ?_
          intro wz hz
          go_wp2_with fail
          go_meet
          exact ⟨_, rfl, ⟨fun h => (by cases h), fun h => absurd h.2.2.1 h0⟩, hz.1, hz.2.2.1⟩
      · have hi : InB x 0 (l.length - 1) false := InB.no (by omega)
        have P1 := Lib.hid (fun (u : World) (h : TrS w w.heap.size (w.heap.size + 1) (pA key A l.length cap) (tA t0 t1 t2 t3 t4 t5 t6 t7) ⟨w.heap.size, 0, none⟩ (.int .i64 key) u) => (PO.out u h.1).mono (fun e w' ⟨he, hb⟩ => (⟨he, (TrS.keep hb (TrS.cells h)).2⟩ : _ ∧ TrS w w.heap.size (w.heap.size + 1) (pA key A l.length cap) (tA t0 t1 t2 t3 t4 t5 t6 t7) ⟨w.heap.size, 0, none⟩ (.int .i64 key) w')))
        rw [okB_yes hp] at P1
        refine wp_region_class (C := fun u => TrS w w.heap.size (w.heap.size + 1) (pA key A l.length cap) (tA t0 t1 t2 t3 t4 t5 t6 t7) ⟨w.heap.size, 0, none⟩ (.int .i64 key) u) (by kernel_rfl) (by kernel_rfl) T0.out ?_
        iterate 36 (first
          | go_big_quiet_skip
          | (go_big_quiet_want
             go_big_quiet_op
             first
               | go_big_quiet_on
               | (apply Exists.intro
                  refine ⟨fun u hu => ?_, ?_⟩
                  · first
                      | with_reducible rfl
                      | (go_at_call 71; exact P1.out u hu)
                      | (go_at_call 82; exact class_same hu (EI.out _ _ _ _ ‹InB _ _ _ _› u))
                      | (go_at_call 167; exact class_same hu (ET.out _ _ ‹TmB _ _› u))
                      | (obtain ⟨⟨e0, e1, e2, e3, e4, e5⟩, -⟩ := TrS.cells hu; go_simp; first | done | with_reducible rfl)
                  go_big_quiet_on)))
        refine wpQuiet_nil ?_
        intro wz hz
        go_wp2_with fail
        go_meet
        exact ⟨_, rfl, ⟨fun h => (by cases h), fun h => absurd h.2.1 hx⟩, hz.1, hz.2.2.1⟩
    · skip
      have P1 := Lib.hid (fun (u : World) (h : TrS w w.heap.size (w.heap.size + 1) (pA key A l.length cap) (tA t0 t1 t2 t3 t4 t5 t6 t7) ⟨w.heap.size, 0, none⟩ (.int .i64 key) u) => (PO.out u h.1).mono (fun e w' ⟨he, hb⟩ => (⟨he, (TrS.keep hb (TrS.cells h)).2⟩ : _ ∧ TrS w w.heap.size (w.heap.size + 1) (pA key A l.length cap) (tA t0 t1 t2 t3 t4 t5 t6 t7) ⟨w.heap.size, 0, none⟩ (.int .i64 key) w')))
      rw [okB_no hp] at P1
      refine wp_region_class (C := fun u => TrS w w.heap.size (w.heap.size + 1) (pA key A l.length cap) (tA t0 t1 t2 t3 t4 t5 t6 t7) ⟨w.heap.size, 0, none⟩ (.int .i64 key) u) (by kernel_rfl) (by kernel_rfl) T0.out ?_
      iterate 36 (first
        | go_big_quiet_skip
        | (go_big_quiet_want
           go_big_quiet_op
           first
             | go_big_quiet_on
             | (apply Exists.intro
                refine ⟨fun u hu => ?_, ?_⟩
                · first
                    | with_reducible rfl
                    | (go_at_call 71; exact P1.out u hu)
                    | (go_at_call 82; exact class_same hu (EI.out _ _ _ _ ‹InB _ _ _ _› u))
                    | (go_at_call 167; exact class_same hu (ET.out _ _ ‹TmB _ _› u))
                    | (obtain ⟨⟨e0, e1, e2, e3, e4, e5⟩, -⟩ := TrS.cells hu; go_simp; first | done | with_reducible rfl)
                go_big_quiet_on)))
      refine wpQuiet_nil ?_
      intro wz hz
      go_wp2_with fail
      go_meet
      exact ⟨_, rfl, ⟨fun h => (by cases h), fun h => absurd h.1 hp⟩, hz.1, hz.2.2.1⟩
  case rest =>
  obtain ⟨z, rfl, hz, hb, hq⟩ := hcut
  have HBW := Lib.hid hb
  have q2 : wc.cell? ⟨w.heap.size + 1, 2, none⟩ = some (.int .i64 t2) := hq.cell 2
  have q3 : wc.cell? ⟨w.heap.size + 1, 3, none⟩ = some (.int .i64 t3) := hq.cell 3
  have q4 : wc.cell? ⟨w.heap.size + 1, 4, none⟩ = some (.int .i64 t4) := hq.cell 4
  have q5 : wc.cell? ⟨w.heap.size + 1, 5, none⟩ = some (.int .i64 t5) := hq.cell 5
  have q6 : wc.cell? ⟨w.heap.size + 1, 6, none⟩ = some (.int .i64 t6) := hq.cell 6
  clear hb hq PO EI ET T0 TF HA
  rcases z with _ | _
  · have hG := hz.1 rfl
    clear hz
    by_cases c2 : t2 = 0
    · skip
      by_cases c5 : t5 = 0
      · skip
        by_cases c6 : t6 = 0
        · subst c2 c5 c6
          have s0 : isSumP 0 := ⟨by omega, by omega⟩
          by_cases s3 : isSumP t3
          · by_cases s4 : isSumP t4
            · skip
              go_wp2_with fail
              refine (l7Sum_b t3 true _ (SumB.yes s3)).mono ?_; rintro e w' ⟨rfl, rfl⟩
              go_wp2_with fail
              refine (l7Sum_b t4 true _ (SumB.yes s4)).mono ?_; rintro e w' ⟨rfl, rfl⟩
              go_wp2_with fail
              refine (l7Sum_b 0 true _ (SumB.yes s0)).mono ?_; rintro e w' ⟨rfl, rfl⟩
              go_wp2_with fail
              refine (l7Sum_b 0 true _ (SumB.yes s0)).mono ?_; rintro e w' ⟨rfl, rfl⟩
              go_wp2_with fail
              go_ret
              exact ⟨by rw [trustB_yes ⟨hG.1, hG.2.1, hG.2.2.1, hG.2.2.2.1, hG.2.2.2.2, (fun _ => ⟨rfl, rfl⟩), s3, s4, s0, s0⟩]; rfl, HBW.out⟩
            · skip
              go_wp2_with fail
              refine (l7Sum_b t3 true _ (SumB.yes s3)).mono ?_; rintro e w' ⟨rfl, rfl⟩
              go_wp2_with fail
              refine (l7Sum_b t4 false _ (SumB.no s4)).mono ?_; rintro e w' ⟨rfl, rfl⟩
              go_wp2_with fail
              go_ret
              exact ⟨by rw [trustB_no (fun h => s4 h.2.2.2.2.2.2.2.1)]; rfl, HBW.out⟩
          · skip
            go_wp2_with fail
            refine (l7Sum_b t3 false _ (SumB.no s3)).mono ?_; rintro e w' ⟨rfl, rfl⟩
            go_wp2_with fail
            go_ret
            exact ⟨by rw [trustB_no (fun h => s3 h.2.2.2.2.2.2.1)]; rfl, HBW.out⟩
        · have c6' : (t6 == 0) = false := by simpa using c6
          go_wp2_with fail
          go_ret
          exact ⟨by rw [trustB_no (fun h => c6 (h.2.2.2.2.2.1 c2).2)]; rfl, HBW.out⟩
      · have c5' : (t5 == 0) = false := by simpa using c5
        go_wp2_with fail
        go_ret
        exact ⟨by rw [trustB_no (fun h => c5 (h.2.2.2.2.2.1 c2).1)]; rfl, HBW.out⟩
    · have c2' : (t2 == 0) = false := by simpa using c2
      by_cases s3 : isSumP t3
      · by_cases s4 : isSumP t4
        · by_cases s5 : isSumP t5
          · by_cases s6 : isSumP t6
            · skip
              go_wp2_with fail
              refine (l7Sum_b t3 true _ (SumB.yes s3)).mono ?_; rintro e w' ⟨rfl, rfl⟩
              go_wp2_with fail
              refine (l7Sum_b t4 true _ (SumB.yes s4)).mono ?_; rintro e w' ⟨rfl, rfl⟩
              go_wp2_with fail
              refine (l7Sum_b t5 true _ (SumB.yes s5)).mono ?_; rintro e w' ⟨rfl, rfl⟩
              go_wp2_with fail
              refine (l7Sum_b t6 true _ (SumB.yes s6)).mono ?_; rintro e w' ⟨rfl, rfl⟩
              go_wp2_with fail
              go_ret
              exact ⟨by rw [trustB_yes ⟨hG.1, hG.2.1, hG.2.2.1, hG.2.2.2.1, hG.2.2.2.2, (fun h => absurd h c2), s3, s4, s5, s6⟩]; rfl, HBW.out⟩
            · skip
              go_wp2_with fail
              refine (l7Sum_b t3 true _ (SumB.yes s3)).mono ?_; rintro e w' ⟨rfl, rfl⟩
              go_wp2_with fail
              refine (l7Sum_b t4 true _ (SumB.yes s4)).mono ?_; rintro e w' ⟨rfl, rfl⟩
              go_wp2_with fail
              refine (l7Sum_b t5 true _ (SumB.yes s5)).mono ?_; rintro e w' ⟨rfl, rfl⟩
              go_wp2_with fail
              refine (l7Sum_b t6 false _ (SumB.no s6)).mono ?_; rintro e w' ⟨rfl, rfl⟩
              go_wp2_with fail
              go_ret
              exact ⟨by rw [trustB_no (fun h => s6 h.2.2.2.2.2.2.2.2.2)]; rfl, HBW.out⟩
          · skip
            go_wp2_with fail
            refine (l7Sum_b t3 true _ (SumB.yes s3)).mono ?_; rintro e w' ⟨rfl, rfl⟩
            go_wp2_with fail
            refine (l7Sum_b t4 true _ (SumB.yes s4)).mono ?_; rintro e w' ⟨rfl, rfl⟩
            go_wp2_with fail
            refine (l7Sum_b t5 false _ (SumB.no s5)).mono ?_; rintro e w' ⟨rfl, rfl⟩
            go_wp2_with fail
            go_ret
            exact ⟨by rw [trustB_no (fun h => s5 h.2.2.2.2.2.2.2.2.1)]; rfl, HBW.out⟩
        · skip
          go_wp2_with fail
          refine (l7Sum_b t3 true _ (SumB.yes s3)).mono ?_; rintro e w' ⟨rfl, rfl⟩
          go_wp2_with fail
          refine (l7Sum_b t4 false _ (SumB.no s4)).mono ?_; rintro e w' ⟨rfl, rfl⟩
          go_wp2_with fail
          go_ret
          exact ⟨by rw [trustB_no (fun h => s4 h.2.2.2.2.2.2.2.1)]; rfl, HBW.out⟩
      · skip
        go_wp2_with fail
        refine (l7Sum_b t3 false _ (SumB.no s3)).mono ?_; rintro e w' ⟨rfl, rfl⟩
        go_wp2_with fail
        go_ret
        exact ⟨by rw [trustB_no (fun h => s3 h.2.2.2.2.2.2.1)]; rfl, HBW.out⟩
  · have hG : ¬ trustOk key l x ⟨t0, t1, t2, t3, t4, t5, t6, t7⟩ := fun h => by
      have := hz.2 ⟨h.1, h.2.1, h.2.2.1, h.2.2.2.1, h.2.2.2.2.1⟩
      cases this
    go_wp2_with fail
    go_ret
    exact ⟨by rw [trustB_no hG]; rfl, HBW.out⟩
instance : Inhabited Tru := ⟨⟨0, 0, 0, 0, 0, 0, 0, false⟩⟩
def truV (t : Tru) : List Value := [.int .i64 t.clock, .int .i64 t.epoch, .int .i64 t.cursor, .int .i64 t.read, .int .i64 t.written, .int .i64 t.nread, .int .i64 t.nwritten, .bool t.failed]
theorem truV_len (t : Tru) : (truV t).length = 8 := rfl
def ceV (c : Ce) : List Value := [.int .i64 c.1, .int .i64 c.2]
theorem ceV_len (c : Ce) : (ceV c).length = 2 := rfl
abbrev Trs (w : World) (B : Nat) (A : Option Addr) (L : List Tru) : Prop := Sls truV 8 w B A L
abbrev Cls (w : World) (B : Nat) (A : Option Addr) (L : List Ce) : Prop := Sls ceV 2 w B A L
abbrev TrRow (w : World) (base : Nat) (v : Value) (L : List Tru) : Prop := SRow truV 8 94 w base v L
abbrev ClRow (w : World) (base : Nat) (v : Value) (L : List Ce) : Prop := SRow ceV 2 118 w base v L
theorem info_tru : (Tryz.prog.info? 94).map (fun i => (i.zero, i.size, i.bytes)) = some (some (.agg zT), 8, 64) := by kernel_rfl
theorem info_cel : (Tryz.prog.info? 118).map (fun i => (i.zero, i.size, i.bytes)) = some (some (.agg zC), 2, 16) := by kernel_rfl
theorem truV_one (L : List Tru) : ∀ u ∈ flatS truV L, u.oneCell' = true := by
  intro u hu
  unfold flatS at hu
  obtain ⟨t, _, h⟩ := List.mem_flatMap.1 hu
  simp [truV] at h
  rcases h with rfl | rfl | rfl | rfl | rfl | rfl | rfl | rfl <;> rfl
theorem ceV_one (L : List Ce) : ∀ u ∈ flatS ceV L, u.oneCell' = true := by
  intro u hu
  unfold flatS at hu
  obtain ⟨t, _, h⟩ := List.mem_flatMap.1 hu
  simp [ceV] at h
  rcases h with rfl | rfl <;> rfl
def NewTr (b : World) (L : List Tru) (e : Ending) (w' : World) : Prop := ∃ v, e = .returned v ∧ TrRow w' b.heap.size v L ∧ Below b.heap.size b w'
set_option maxHeartbeats 1000000 in
theorem l10Copy_calls (A : Option Addr) (L : List Tru) (cap : Nat) (w : World) (hn : L.length ≤ 1048576) (hA : Trs w w.heap.size A L) :
    Calls Tryz.prog 151 #[.slice A L.length cap] w (NewTr w L) := by
  have HB := Lib.hid ((Below.refl w.heap.size w).alloc (Nat.le_refl _) (.cells #[] 94))
  have HA := Lib.hid ((hA.grow HB.out).news truV_len (by omega))
  have HR := Lib.hid (SRow.made (enc := truV) (n := 8) (T := 94) w (Nat.le_refl _))
  have hl : (flatS truV L).length = L.length * 8 := flatS_length truV_len
  have h1 := truV_one L
  clear hA
  go_enter Tryz.func151, Tryz.ntmps151
  go_wp2_with (at_builtin; refine wpList_append_row rfl _ _ 27 rfl w.heap.size 94 8 64 0 (.agg zT) (.slice (some ⟨w.heap.size, 0, none⟩) 0 0) [] A L.length cap (flatS truV L) Tryz.underlying27 info_tru rfl (by omega) rfl HR.out rfl hl HA.out h1 (by unfold maxLen; omega) (by omega) (by simp) ?_)
  intro v' w' hown hg _
  have hb : Below w.heap.size w w' := bgb HB.out (g := w.heap.size) (by simpa [Value.ownBlock] using hg) (by simp) (Nat.le_refl _)
  go_wp2_with fail
  go_ret
  exact ⟨_, rfl, hown, hb⟩
def TruAt (w : World) (b off : Nat) (t : Tru) : Prop :=
  w.cell? ⟨b, off, none⟩ = some (.int .i64 t.clock) ∧ w.cell? ⟨b, off + 1, none⟩ = some (.int .i64 t.epoch) ∧ w.cell? ⟨b, off + 2, none⟩ = some (.int .i64 t.cursor) ∧ w.cell? ⟨b, off + 3, none⟩ = some (.int .i64 t.read) ∧
  w.cell? ⟨b, off + 4, none⟩ = some (.int .i64 t.written) ∧ w.cell? ⟨b, off + 5, none⟩ = some (.int .i64 t.nread) ∧ w.cell? ⟨b, off + 6, none⟩ = some (.int .i64 t.nwritten) ∧ w.cell? ⟨b, off + 7, none⟩ = some (.bool t.failed)
theorem TruAt.below {w u : World} {B b off : Nat} {t : Tru} (h : TruAt w b off t) (hb : Below B w u) (hlt : b < B) : TruAt u b off t := by
  obtain ⟨c0, c1, c2, c3, c4, c5, c6, c7⟩ := h
  have f := fun o => hb.cell (p := ⟨b, o, none⟩) hlt
  exact ⟨(f _).trans c0, (f _).trans c1, (f _).trans c2, (f _).trans c3, (f _).trans c4, (f _).trans c5, (f _).trans c6, (f _).trans c7⟩
theorem Trs.at_ {w : World} {B : Nat} {A : Option Addr} {L : List Tru} {k : Nat} (h : Trs w B A L) (hk : k < L.length) : ∃ b off, A = some ⟨b, off, none⟩ ∧ b < B ∧ TruAt w b (off + k * 8) (L.getD k default) := by
  obtain ⟨b, off, e, hb, hc⟩ := h k hk
  exact ⟨b, off, e, hb, hc 0 (by omega), hc 1 (by omega), hc 2 (by omega), hc 3 (by omega), hc 4 (by omega), hc 5 (by omega), hc 6 (by omega), hc 7 (by omega)⟩
def trustsOk (key : Int) (l : List Int) (L : List Tru) : Prop := planOk key l ∧ L.length = l.length ∧ ∀ i, i < L.length → trustOk key l i (L.getD i default)
open Classical in
noncomputable def trustsB (key : Int) (l : List Int) (L : List Tru) : Bool := decide (trustsOk key l L)
open Classical in
theorem trustsB_yes {key : Int} {l : List Int} {L : List Tru} (h : trustsOk key l L) : trustsB key l L = true := by unfold trustsB; exact decide_eq_true h
open Classical in
theorem trustsB_no {key : Int} {l : List Int} {L : List Tru} (h : ¬ trustsOk key l L) : trustsB key l L = false := by unfold trustsB; exact decide_eq_false h
def UpToOk (key : Int) (l : List Int) (L : List Tru) (k : Nat) : Prop := ∀ i, i < k → trustOk key l i (L.getD i default)
set_option maxRecDepth 20000 in
set_option maxHeartbeats 4000000 in
theorem l10Trusts_calls (key : Int) (A C : Option Addr) (l : List Int) (cap : Nat) (L : List Tru) (cap2 : Nat) (w : World) (hn : l.length ≤ maxLen) (hA : Ints w .i64 w.heap.size A l) (hN : L.length ≤ maxLen) (hC : Trs w w.heap.size C L) :
    Calls Tryz.prog 79 #[.agg (pA key A l.length cap), .slice C L.length cap2] w fun e w' => e = .returned (.bool (trustsB key l L)) ∧ Below w.heap.size w w' := by
  have K0 := Lib.hid (show Kept w [(w.heap.size, 26, (pA key A l.length cap))] _ from (Kept.refl w).put1 _ _ (pA key A l.length cap) rfl)
  have PO := Lib.hid (fun (u : World) (hb : Below w.heap.size w u) => specPlanOk_calls key A l cap u hn ((hA.below hb (Nat.le_refl _)).more hb.size))
  have TO := Lib.hid (fun (t : Tru) (x : Int) (u : World) (hb : Below w.heap.size w u) => specTrustOk_calls key x A l cap t.clock t.epoch t.cursor t.read t.written t.nread t.nwritten t.failed u hn ((hA.below hb (Nat.le_refl _)).more hb.size))
  have HC := Lib.hid hC
  have hm := hN
  have hm2 := hn
  unfold maxLen at hm hm2
  clear hA hC hN hn
  go_enter Tryz.func79, Tryz.ntmps79
  go_wp2_with fail
  go_loopw [5] (fun i wr => ∃ k : Nat, k ≤ L.length ∧ i = .int .i64 k ∧ UpToOk key l L k ∧ Kept w [(w.heap.size, 26, (pA key A l.length cap))] wr) (fun i _ => L.length - (intOf i).toNat)
  case atStart => exact ⟨0, Nat.zero_le _, rfl, fun i hi => absurd hi (by omega), K0.out⟩
  case round =>
    obtain ⟨k, hk, rfl, hup, hz⟩ := hrel
    have HU := Lib.hid hup
    clear hup
    by_cases hlt : k < L.length
    · obtain ⟨b, off, rfl, hb, hc⟩ := HC.out.at_ hlt
      have hlt' : (k : Int) < L.length := by omega
      have hk0 : (0 : Int) ≤ k := by omega
      have TB := Lib.hid (TO.out (L.getD k default) k)
      by_cases hok : trustOk key l k (L.getD k default)
      · have NX := Lib.hid (show UpToOk key l L (k + 1) from fun i hi => by
          rcases Nat.lt_or_ge i k with h | h
          · exact HU.out i h
          · obtain rfl : i = k := by omega
            exact hok)
        rw [show (⟨(L.getD k default).clock, (L.getD k default).epoch, (L.getD k default).cursor, (L.getD k default).read, (L.getD k default).written, (L.getD k default).nread, (L.getD k default).nwritten, (L.getD k default).failed⟩ : Tru) = L.getD k default from rfl, trustB_yes hok] at TB
        clear hok HU
        generalize L.getD k default = t at hc TB
        go_upto_region 4 with fail
        refine wp_region_class (C := fun u => Kept w [(w.heap.size, 26, (pA key A l.length cap))] u) (by kernel_rfl) (by kernel_rfl) hz.drew ?_
        iterate 8 (first
          | go_big_quiet_skip
          | (go_big_quiet_want
             go_big_quiet_op
             first
               | go_big_quiet_on
               | (apply Exists.intro
                  refine ⟨fun u hu => ?_, ?_⟩
                  · first
                      | with_reducible rfl
                      | (go_at_call 160; exact (TB.out u hu.1).mono fun e w' h => ⟨h.1, hu.below h.2⟩)
                      | (obtain ⟨kc0, kf0, -⟩ := hu.rd; obtain ⟨c0, c1, c2, c3, c4, c5, c6, c7⟩ := hc.below hu.1 hb; go_simp; first | done | with_reducible rfl)
                  go_big_quiet_on)))
        refine wpQuiet_nil ?_
        intro u4 hz4
        go_wp2_with fail
        go_roundw
        case rel => exact ⟨k + 1, by omega, by go_num, NX.out, hz4⟩
        case measure => simp [intOf]; omega
      · rw [show (⟨(L.getD k default).clock, (L.getD k default).epoch, (L.getD k default).cursor, (L.getD k default).read, (L.getD k default).written, (L.getD k default).nread, (L.getD k default).nwritten, (L.getD k default).failed⟩ : Tru) = L.getD k default from rfl, trustB_no hok] at TB
        have HX := Lib.hid (trustsB_no (l := l) (L := L) (key := key) (fun h => hok (h.2.2 k hlt)))
        clear hok HU
        generalize L.getD k default = t at hc TB
        go_upto_region 4 with fail
        refine wp_region_class (C := fun u => Kept w [(w.heap.size, 26, (pA key A l.length cap))] u) (by kernel_rfl) (by kernel_rfl) hz.drew ?_
        iterate 8 (first
          | go_big_quiet_skip
          | (go_big_quiet_want
             go_big_quiet_op
             first
               | go_big_quiet_on
               | (apply Exists.intro
                  refine ⟨fun u hu => ?_, ?_⟩
                  · first
                      | with_reducible rfl
                      | (go_at_call 160; exact (TB.out u hu.1).mono fun e w' h => ⟨h.1, hu.below h.2⟩)
                      | (obtain ⟨kc0, kf0, -⟩ := hu.rd; obtain ⟨c0, c1, c2, c3, c4, c5, c6, c7⟩ := hc.below hu.1 hb; go_simp; first | done | with_reducible rfl)
                  go_big_quiet_on)))
        refine wpQuiet_nil ?_
        intro u4 hz4
        go_wp2_with fail
        go_ret
        exact ⟨by rw [HX.out]; rfl, hz4.1⟩
    · have hk' : k = L.length := by omega
      have e1 : (k : Int) = L.length := by omega
      subst hk'
      by_cases hp : planOk key l
      · have PB := Lib.hid (fun u hb => PO.out u hb)
        rw [okB_yes hp] at PB
        by_cases hln : L.length = l.length
        · have hbl : ((L.length : Int) == (l.length : Int)) = true := beq_iff_eq.2 (by omega)
          have hbn : (L.length == l.length) = true := beq_iff_eq.2 hln
          have HX := Lib.hid (trustsB_yes (show trustsOk key l L from ⟨hp, hln, HU.out⟩))
          clear hln hp
          obtain ⟨kc0, kf0, -⟩ := hz.rd
          go_wp2_with fail
          refine (PB.out _ hz.1).mono ?_; rintro e w1 ⟨rfl, b1⟩
          have h1 := hz.below b1
          clear b1 hz kc0 kf0
          obtain ⟨kc0, kf0, -⟩ := h1.rd
          go_wp2_with fail
          go_ret
          exact ⟨by rw [HX.out]; rfl, h1.1⟩
        · have hbl : ((L.length : Int) == (l.length : Int)) = false := beq_false_of_ne (by omega)
          have hbn : (L.length == l.length) = false := beq_false_of_ne hln
          have HX := Lib.hid (trustsB_no (show ¬ trustsOk key l L from fun h => hln h.2.1))
          clear hln hp
          obtain ⟨kc0, kf0, -⟩ := hz.rd
          go_wp2_with fail
          refine (PB.out _ hz.1).mono ?_; rintro e w1 ⟨rfl, b1⟩
          have h1 := hz.below b1
          clear b1 hz kc0 kf0
          obtain ⟨kc0, kf0, -⟩ := h1.rd
          go_wp2_with fail
          go_ret
          exact ⟨by rw [HX.out]; rfl, h1.1⟩
      · have PB := Lib.hid (fun u hb => PO.out u hb)
        rw [okB_no hp] at PB
        have HX := Lib.hid (trustsB_no (show ¬ trustsOk key l L from fun h => hp h.1))
        clear hp
        obtain ⟨kc0, kf0, -⟩ := hz.rd
        go_wp2_with fail
        refine (PB.out _ hz.1).mono ?_; rintro e w1 ⟨rfl, b1⟩
        have h1 := hz.below b1
        clear b1 hz kc0 kf0
        go_wp2_with fail
        go_ret
        exact ⟨by rw [HX.out]; rfl, h1.1⟩
end Go.Proofs.YteoijmejhdocdaaGreatDoor.Mx

import Derived.Test.YtjbnknccnhdapaaGreatG15
import Derived.Test.YtjbnknccnhdapaaGreatG17
import Derived.Test.YtjbnknccnhdapaaGreatG16
import Derived.Test.YtjbnknccnhdapaaGreatG13
namespace Go.Proofs.YtjbnknccnhdapaaGreat.Mx
open Go.ChangeShapes Go.WideShapes Go.ChangeAt Go.RowKit
set_option linter.unusedVariables false
def verdictOf (t : Tru) : Tru × Int :=
 if t.read = t.written then (⟨t.clock, t.epoch + 1, 0, t.nread, t.nwritten, 0, 0, t.failed⟩, 5) else (⟨t.clock, t.epoch, 0, t.read, t.written, 0, 0, true⟩, 4)
def zeroTru : Tru := ⟨0, 0, 0, 0, 0, 0, 0, false⟩
def scanOk (key : Int) (l : List Int) (x : Int) (t : Tru) (ct cv : Int) : Prop := trustOk key l x t ∧ isCell ct cv
noncomputable def scanMid (key : Int) (l : List Int) (x : Int) (t : Tru) (ct cv : Int) : Tru :=
 ⟨t.clock + 1, t.epoch, t.cursor + 1, addOf t.read (tagOf key (tripleIn (firstOf key l x + t.cursor) ct cv).1 (tripleIn (firstOf key l x + t.cursor) ct cv).2.1 (tripleIn (firstOf key l x + t.cursor) ct cv).2.2), t.written, t.nread,
  addOf t.nwritten (tagOf key (tripleIn (firstOf key l x + t.cursor) (cellOf key (firstOf key l x + t.cursor) (t.clock + 1) (valueIn key (firstOf key l x + t.cursor) ct cv)).1 (cellOf key (firstOf key l x + t.cursor) (t.clock + 1) (valueIn key (firstOf key l x + t.cursor) ct cv)).2).1
   (tripleIn (firstOf key l x + t.cursor) (cellOf key (firstOf key l x + t.cursor) (t.clock + 1) (valueIn key (firstOf key l x + t.cursor) ct cv)).1 (cellOf key (firstOf key l x + t.cursor) (t.clock + 1) (valueIn key (firstOf key l x + t.cursor) ct cv)).2).2.1
   (tripleIn (firstOf key l x + t.cursor) (cellOf key (firstOf key l x + t.cursor) (t.clock + 1) (valueIn key (firstOf key l x + t.cursor) ct cv)).1 (cellOf key (firstOf key l x + t.cursor) (t.clock + 1) (valueIn key (firstOf key l x + t.cursor) ct cv)).2).2.2), t.failed⟩
theorem l9Verdict_calls (t0 t1 t2 t3 t4 t5 t6 : Int) (t7 : Bool) (w : World) (h1 : 0 ≤ t1) (h1' : t1 ≤ 1000) :
    Calls Tryz.prog 101 #[.agg (tA t0 t1 t2 t3 t4 t5 t6 t7)] w fun e w' => e = .returned (.tuple #[.agg (tR ((verdictOf ⟨t0, t1, t2, t3, t4, t5, t6, t7⟩).1)), .int .i64 (verdictOf ⟨t0, t1, t2, t3, t4, t5, t6, t7⟩).2]) ∧ Below w.heap.size w w' := by
 by_cases h : t3 = t4
 ·have e : verdictOf ⟨t0, t1, t2, t3, t4, t5, t6, t7⟩ = (⟨t0, t1 + 1, 0, t5, t6, 0, 0, t7⟩, 5) := by unfold verdictOf; rw [if_pos h]
  rw [e]
  have hb : (t3 == t4) = true := by simpa using h
  clear h e
  go_enter Tryz.func101, Tryz.ntmps101
  go_wp2_with fail
  refine bodyPost_ret (v := .tuple #[.agg (tA t0 (t1 + 1) 0 t5 t6 0 0 t7), .int .i64 5]) (by simp [results, Tryz.results101, go_sem]) rfl ⟨rfl, ((Below.refl _ _).alloc (Nat.le_refl _) _).alloc (by simp) _⟩
 ·have e : verdictOf ⟨t0, t1, t2, t3, t4, t5, t6, t7⟩ = (⟨t0, t1, 0, t3, t4, 0, 0, true⟩, 4) := by unfold verdictOf; rw [if_neg h]
  rw [e]
  have hb : (t3 == t4) = false := by simpa using h
  clear h e
  go_enter Tryz.func101, Tryz.ntmps101
  go_wp2_with fail
  refine bodyPost_ret (v := .tuple #[.agg (tA t0 t1 0 t3 t4 0 0 true), .int .i64 4]) (by simp [results, Tryz.results101, go_sem]) rfl ⟨rfl, ((Below.refl _ _).alloc (Nat.le_refl _) _).alloc (by simp) _⟩
set_option maxRecDepth 20000 in
set_option maxHeartbeats 4000000 in
theorem specScanned_bad (key x ct cv : Int) (A : Option Addr) (l : List Int) (cap : Nat) (t0 t1 t2 t3 t4 t5 t6 : Int) (t7 : Bool) (w : World) (hn : l.length ≤ maxLen) (hcap : l.length ≤ cap) (hA : Ints w .i64 w.heap.size A l) (h : ¬ scanOk key l x ⟨t0, t1, t2, t3, t4, t5, t6, t7⟩ ct cv) :
    Calls Tryz.prog 84 #[.agg (pA key A l.length cap), .int .i64 x, .agg (tA t0 t1 t2 t3 t4 t5 t6 t7), .agg (cA ct cv)] w fun e w' => e = .returned (.tuple #[.agg zT, .agg zC, .int .i64 1]) ∧ Below w.heap.size w w' := by
 have K0 := Lib.hid (show Kept w [(w.heap.size + 1 + 1 + 1 + 1, 55, zC), (w.heap.size + 1 + 1 + 1, 67, zT), (w.heap.size + 1 + 1, 55, (cA ct cv)), (w.heap.size + 1, 67, (tA t0 t1 t2 t3 t4 t5 t6 t7)), (w.heap.size, 26, (pA key A l.length cap))] _ from ((((((Kept.refl w).put1 _ _ (pA key A l.length cap) rfl).put1 _ _ (tA t0 t1 t2 t3 t4 t5 t6 t7) (by simp)).put1 _ _ (cA ct cv) (by simp)).put1 _ _ zT (by simp)).put1 _ _ zC (by simp)))
 have FI := Lib.hid (fun (u : World) (hb : Below w.heap.size w u) => specFirst_calls key x A l cap u hn hcap ((hA.below hb (Nat.le_refl _)).more hb.size))
 have TO := Lib.hid (fun (u : World) (hb : Below w.heap.size w u) => specTrustOk_calls key x A l cap t0 t1 t2 t3 t4 t5 t6 t7 u hn ((hA.below hb (Nat.le_refl _)).more hb.size))
 have CO := Lib.hid (fun (u : World) => specCellOk_calls ct cv u)
 clear hA hn
 unfold scanOk at h
 by_cases hf : 0 ≤ firstOf key l x
 ·have hd : decide (firstOf key l x < 0) = false := decide_eq_false (by omega)
  by_cases ht : trustOk key l x ⟨t0, t1, t2, t3, t4, t5, t6, t7⟩
  ·rw [trustB_yes ht] at TO
   rw [decide_eq_false (show ¬ isCell ct cv from fun hc => h ⟨ht, hc⟩)] at CO
   clear h ht hf
   generalize firstOf key l x = f at FI hd
   go_enter Tryz.func84, Tryz.ntmps84
   go_wp2_with fail
   refine (FI.out _ K0.out.1).mono ?_; rintro e uz1 ⟨rfl, bz2⟩
   have hz3 := K0.out.below bz2
   clear bz2
   obtain ⟨kc0, kf0, kc1, kf1, kc2, kf2, kc3, kf3, kc4, kf4, -⟩ := hz3.rd
   go_wp2_with fail
   refine (TO.out _ hz3.1).mono ?_; rintro e uz4 ⟨rfl, bz5⟩
   have hz6 := hz3.below bz5
   clear bz5 hz3 kc0 kf0 kc1 kf1 kc2 kf2 kc3 kf3 kc4 kf4
   obtain ⟨kc0, kf0, kc1, kf1, kc2, kf2, kc3, kf3, kc4, kf4, -⟩ := hz6.rd
   go_wp2_with fail
   refine (CO.out _).mono ?_; rintro e uz7 ⟨rfl, bz8⟩
   have hz9 := hz6.below bz8
   clear bz8 hz6 kc0 kf0 kc1 kf1 kc2 kf2 kc3 kf3 kc4 kf4
   obtain ⟨kc0, kf0, kc1, kf1, kc2, kf2, kc3, kf3, kc4, kf4, -⟩ := hz9.rd
   go_upto_region 3 with fail
   go_wp2_with fail
   obtain ⟨w9, e9, ⟨d0, d1, d2, d3, d4, d5, d6, d7, d8, d9⟩, hb⟩ := touch_end (x0 := .int .i64 0) (x1 := .int .i64 0) (x2 := .int .i64 0) (x3 := .int .i64 0) (x4 := .int .i64 0) (x5 := .int .i64 0) (x6 := .int .i64 0) (x7 := .bool false) (y0 := .int .i64 0) (y1 := .int .i64 0) (hz9.at_ (p := w.heap.size + 1 + 1 + 1) (t := 67) (cs := zT) (by simp)) (hz9.at_ (p := w.heap.size + 1 + 1 + 1 + 1) (t := 55) (cs := zC) (by simp)) (by omega) hz9.1 (by omega) (by omega)
   rw [e9]
   exact bodyPost_ret (v := (.tuple #[.agg zT, .agg zC, .int .i64 1])) (by simp [results, Tryz.results84, go_sem, d0, d1, d2, d3, d4, d5, d6, d7, d8, d9]) rfl ⟨rfl, hb⟩
  ·rw [trustB_no ht] at TO
   clear h ht hf CO
   generalize firstOf key l x = f at FI hd
   go_enter Tryz.func84, Tryz.ntmps84
   go_wp2_with fail
   refine (FI.out _ K0.out.1).mono ?_; rintro e uz1 ⟨rfl, bz2⟩
   have hz3 := K0.out.below bz2
   clear bz2
   obtain ⟨kc0, kf0, kc1, kf1, kc2, kf2, kc3, kf3, kc4, kf4, -⟩ := hz3.rd
   go_wp2_with fail
   refine (TO.out _ hz3.1).mono ?_; rintro e uz4 ⟨rfl, bz5⟩
   have hz6 := hz3.below bz5
   clear bz5 hz3 kc0 kf0 kc1 kf1 kc2 kf2 kc3 kf3 kc4 kf4
   obtain ⟨kc0, kf0, kc1, kf1, kc2, kf2, kc3, kf3, kc4, kf4, -⟩ := hz6.rd
   go_upto_region 3 with fail
   go_wp2_with fail
   obtain ⟨w9, e9, ⟨d0, d1, d2, d3, d4, d5, d6, d7, d8, d9⟩, hb⟩ := touch_end (x0 := .int .i64 0) (x1 := .int .i64 0) (x2 := .int .i64 0) (x3 := .int .i64 0) (x4 := .int .i64 0) (x5 := .int .i64 0) (x6 := .int .i64 0) (x7 := .bool false) (y0 := .int .i64 0) (y1 := .int .i64 0) (hz6.at_ (p := w.heap.size + 1 + 1 + 1) (t := 67) (cs := zT) (by simp)) (hz6.at_ (p := w.heap.size + 1 + 1 + 1 + 1) (t := 55) (cs := zC) (by simp)) (by omega) hz6.1 (by omega) (by omega)
   rw [e9]
   exact bodyPost_ret (v := (.tuple #[.agg zT, .agg zC, .int .i64 1])) (by simp [results, Tryz.results84, go_sem, d0, d1, d2, d3, d4, d5, d6, d7, d8, d9]) rfl ⟨rfl, hb⟩
 ·have hd : decide (firstOf key l x < 0) = true := decide_eq_true (by omega)
  clear h hf CO TO
  generalize firstOf key l x = f at FI hd
  go_enter Tryz.func84, Tryz.ntmps84
  go_wp2_with fail
  refine (FI.out _ K0.out.1).mono ?_; rintro e uz1 ⟨rfl, bz2⟩
  have hz3 := K0.out.below bz2
  clear bz2
  obtain ⟨kc0, kf0, kc1, kf1, kc2, kf2, kc3, kf3, kc4, kf4, -⟩ := hz3.rd
  go_upto_region 3 with fail
  go_wp2_with fail
  obtain ⟨w9, e9, ⟨d0, d1, d2, d3, d4, d5, d6, d7, d8, d9⟩, hb⟩ := touch_end (x0 := .int .i64 0) (x1 := .int .i64 0) (x2 := .int .i64 0) (x3 := .int .i64 0) (x4 := .int .i64 0) (x5 := .int .i64 0) (x6 := .int .i64 0) (x7 := .bool false) (y0 := .int .i64 0) (y1 := .int .i64 0) (hz3.at_ (p := w.heap.size + 1 + 1 + 1) (t := 67) (cs := zT) (by simp)) (hz3.at_ (p := w.heap.size + 1 + 1 + 1 + 1) (t := 55) (cs := zC) (by simp)) (by omega) hz3.1 (by omega) (by omega)
  rw [e9]
  exact bodyPost_ret (v := (.tuple #[.agg zT, .agg zC, .int .i64 1])) (by simp [results, Tryz.results84, go_sem, d0, d1, d2, d3, d4, d5, d6, d7, d8, d9]) rfl ⟨rfl, hb⟩
set_option maxRecDepth 20000 in
set_option maxHeartbeats 4000000 in
theorem specScanned_failed (key x ct cv : Int) (A : Option Addr) (l : List Int) (cap : Nat) (t0 t1 t2 t3 t4 t5 t6 : Int) (w : World) (hn : l.length ≤ maxLen) (hcap : l.length ≤ cap) (hA : Ints w .i64 w.heap.size A l) (ht : trustOk key l x ⟨t0, t1, t2, t3, t4, t5, t6, true⟩) (hc : isCell ct cv)  :
    Calls Tryz.prog 84 #[.agg (pA key A l.length cap), .int .i64 x, .agg (tA t0 t1 t2 t3 t4 t5 t6 true), .agg (cA ct cv)] w fun e w' => e = .returned (.tuple #[.agg (tA t0 t1 t2 t3 t4 t5 t6 true), .agg (cA ct cv), .int .i64 2]) ∧ Below w.heap.size w w' := by
 have K0 := Lib.hid (show Kept w [(w.heap.size + 1 + 1 + 1 + 1, 55, zC), (w.heap.size + 1 + 1 + 1, 67, zT), (w.heap.size + 1 + 1, 55, (cA ct cv)), (w.heap.size + 1, 67, (tA t0 t1 t2 t3 t4 t5 t6 true)), (w.heap.size, 26, (pA key A l.length cap))] _ from ((((((Kept.refl w).put1 _ _ (pA key A l.length cap) rfl).put1 _ _ (tA t0 t1 t2 t3 t4 t5 t6 true) (by simp)).put1 _ _ (cA ct cv) (by simp)).put1 _ _ zT (by simp)).put1 _ _ zC (by simp)))
 have FI := Lib.hid (fun (u : World) (hb : Below w.heap.size w u) => specFirst_calls key x A l cap u hn hcap ((hA.below hb (Nat.le_refl _)).more hb.size))
 have TO := Lib.hid (fun (u : World) (hb : Below w.heap.size w u) => specTrustOk_calls key x A l cap t0 t1 t2 t3 t4 t5 t6 true u hn ((hA.below hb (Nat.le_refl _)).more hb.size))
 have CO := Lib.hid (fun (u : World) => specCellOk_calls ct cv u)
 have hf : 0 ≤ firstOf key l x ∧ firstOf key l x ≤ 32 := by
  obtain ⟨r, hr⟩ : ∃ r : Nat, x = r := ⟨x.toNat, by have := ht.2.1; omega⟩
  have hl : r < l.length := by have := ht.2.1; omega
  rw [hr, firstOf_yes ht.1 hl]
  have h1 := upTo_bd ht.1.2.2.1 (show r ≤ l.length by omega)
  have h2 := ht.1.2.1.2
  omega
 have hd : decide (firstOf key l x < 0) = false := decide_eq_false (by omega)
 rw [trustB_yes ht] at TO
 rw [decide_eq_true hc] at CO
 clear ht hc hf hA hn
 generalize firstOf key l x = f at FI hd
 go_enter Tryz.func84, Tryz.ntmps84
 go_wp2_with fail
 refine (FI.out _ K0.out.1).mono ?_; rintro e uz1 ⟨rfl, bz2⟩
 have hz3 := K0.out.below bz2
 clear bz2
 obtain ⟨kc0, kf0, kc1, kf1, kc2, kf2, kc3, kf3, kc4, kf4, -⟩ := hz3.rd
 go_wp2_with fail
 refine (TO.out _ hz3.1).mono ?_; rintro e uz4 ⟨rfl, bz5⟩
 have hz6 := hz3.below bz5
 clear bz5 hz3 kc0 kf0 kc1 kf1 kc2 kf2 kc3 kf3 kc4 kf4
 obtain ⟨kc0, kf0, kc1, kf1, kc2, kf2, kc3, kf3, kc4, kf4, -⟩ := hz6.rd
 go_wp2_with fail
 refine (CO.out _).mono ?_; rintro e uz7 ⟨rfl, bz8⟩
 have hz9 := hz6.below bz8
 clear bz8 hz6 kc0 kf0 kc1 kf1 kc2 kf2 kc3 kf3 kc4 kf4
 obtain ⟨kc0, kf0, kc1, kf1, kc2, kf2, kc3, kf3, kc4, kf4, -⟩ := hz9.rd
 go_upto_region 5 with fail
 have hst : ∀ x ∈ ([(2, w.heap.size + 1 + 1 + 1, 67, (tA t0 t1 t2 t3 t4 t5 t6 true)), (3, w.heap.size + 1 + 1 + 1 + 1, 55, (cA ct cv))] : List Res), w.heap.size ≤ x.2.1 ∧ (∀ y ∈ ([(w.heap.size + 1 + 1, 55, (cA ct cv)), (w.heap.size + 1, 67, (tA t0 t1 t2 t3 t4 t5 t6 true)), (w.heap.size, 26, (pA key A l.length cap))] : List Box), y.1 ≠ x.2.1) ∧ ∃ z, CellsAt uz7 x.2.1 x.2.2.1 z ∧ z.size = x.2.2.2.size := by
  intro y hy
  simp only [List.mem_cons, List.not_mem_nil, or_false] at hy
  rcases hy with rfl | rfl
  ·exact ⟨by simp only [] <;> omega, by intro y hy; simp at hy; rcases hy with rfl | rfl | rfl <;> simp <;> omega, _, hz9.at_ (t := 67) (cs := zT) (by simp), rfl⟩
  ·exact ⟨by simp only [] <;> omega, by intro y hy; simp at hy; rcases hy with rfl | rfl | rfl <;> simp <;> omega, _, hz9.at_ (t := 55) (cs := zC) (by simp), rfl⟩
 have hn0 : Kept w [(w.heap.size + 1 + 1, 55, (cA ct cv)), (w.heap.size + 1, 67, (tA t0 t1 t2 t3 t4 t5 t6 true)), (w.heap.size, 26, (pA key A l.length cap))] _ := hz9.sub (by intro y hy; simp at hy ⊢; rcases hy with rfl | rfl | rfl <;> simp)
 refine wp_region_free [false, false, true, true, false] (ShV []) (fun D _ u => ResC w [(w.heap.size + 1 + 1, 55, (cA ct cv)), (w.heap.size + 1, 67, (tA t0 t1 t2 t3 t4 t5 t6 true)), (w.heap.size, 26, (pA key A l.length cap))] [(2, w.heap.size + 1 + 1 + 1, 67, (tA t0 t1 t2 t3 t4 t5 t6 true)), (3, w.heap.size + 1 + 1 + 1 + 1, 55, (cA ct cv))] D u) (by kernel_rfl) (by kernel_rfl) (fun γ => by kernel_rfl) (fun D γ γ' w _ h => h) (ShV.inh _) (fun γ => ResC.start hn0 hst) (fun γ hγ => ?_)
 clear hst hn0
 have g2 : γ 2 = undef := hγ 2 rfl
 have g3 : γ 3 = undef := hγ 3 rfl
 clear hz9 kc0 kf0 kc1 kf1 kc2 kf2 kc3 kf3 kc4 kf4
 apply Exists.intro
 refine ⟨fun D => ?_, ?_, ?_⟩
 ·simp only [hushL, cond_true, cond_false, Nat.reduceAdd, g2, g3]
  iterate 5 (first
   | go_big_quiet_skip
   | (go_big_quiet_want
      go_big_quiet_op
      first
       | go_big_quiet_on
       | (apply Exists.intro
          refine ⟨fun u hu => ?_, ?_⟩
          ·first
             | with_reducible rfl
             | (obtain ⟨kc0, kf0, kc1, kf1, kc2, kf2, -⟩ := hu.1.rd; go_simp; first | done | with_reducible rfl)
          go_big_quiet_on)))
  exact wpQuiet_nil rfl
 ·simp only [freeOk, Nat.reduceAdd]
  refine ⟨fun D u hD hd hu => ?_, fun D u hD hd hu => ?_, trivial⟩
  ·obtain ⟨z, hz, hzs⟩ := hu.at_ (k := 2) (p := w.heap.size + 1 + 1 + 1) (t := 67) (V := (tA t0 t1 t2 t3 t4 t5 t6 true)) (by simp)
   exact steps_store hz rfl rfl rfl (by kernel_rfl) hzs (by simp [Value.oneCell']) (fun w' hc hg => ⟨rfl, hu.stored (by simp) (by simp) hg hc⟩)
  ·obtain ⟨z, hz, hzs⟩ := hu.at_ (k := 3) (p := w.heap.size + 1 + 1 + 1 + 1) (t := 55) (V := (cA ct cv)) (by simp)
   exact steps_store hz rfl rfl rfl (by kernel_rfl) hzs (by simp [Value.oneCell']) (fun w' hc hg => ⟨rfl, hu.stored (by simp) (by simp) hg hc⟩)
 ·intro D uf hD hu
  have hf := hu.done (by intro y hy; simp only [List.mem_cons, List.not_mem_nil, or_false] at hy; rcases hy with rfl | rfl; exact hD 2 (by simp) rfl; exact hD 3 (by simp) rfl)
  clear hu hD
  obtain ⟨kc0, kf0, kc1, kf1, kc2, kf2, kc3, kf3, kc4, kf4, -⟩ := hf.rd
  go_wp2_with fail
  exact bodyPost_ret (v := (.tuple #[.agg (tA t0 t1 t2 t3 t4 t5 t6 true), .agg (cA ct cv), .int .i64 2])) (by simp [results, Tryz.results84, go_sem, kc0, kc1]) rfl ⟨rfl, hf.1⟩
set_option maxRecDepth 20000 in
set_option maxHeartbeats 4000000 in
theorem specScanned_spent (key x ct cv : Int) (A : Option Addr) (l : List Int) (cap : Nat) (t0 t1 t2 t3 t4 t5 t6 : Int) (w : World) (hn : l.length ≤ maxLen) (hcap : l.length ≤ cap) (hA : Ints w .i64 w.heap.size A l) (ht : trustOk key l x ⟨t0, t1, t2, t3, t4, t5, t6, false⟩) (hc : isCell ct cv) (hs : 100000 ≤ t0 ∨ 1000 ≤ t1) :
    Calls Tryz.prog 84 #[.agg (pA key A l.length cap), .int .i64 x, .agg (tA t0 t1 t2 t3 t4 t5 t6 false), .agg (cA ct cv)] w fun e w' => e = .returned (.tuple #[.agg (tA t0 t1 t2 t3 t4 t5 t6 false), .agg (cA ct cv), .int .i64 3]) ∧ Below w.heap.size w w' := by
 have K0 := Lib.hid (show Kept w [(w.heap.size + 1 + 1 + 1 + 1, 55, zC), (w.heap.size + 1 + 1 + 1, 67, zT), (w.heap.size + 1 + 1, 55, (cA ct cv)), (w.heap.size + 1, 67, (tA t0 t1 t2 t3 t4 t5 t6 false)), (w.heap.size, 26, (pA key A l.length cap))] _ from ((((((Kept.refl w).put1 _ _ (pA key A l.length cap) rfl).put1 _ _ (tA t0 t1 t2 t3 t4 t5 t6 false) (by simp)).put1 _ _ (cA ct cv) (by simp)).put1 _ _ zT (by simp)).put1 _ _ zC (by simp)))
 have FI := Lib.hid (fun (u : World) (hb : Below w.heap.size w u) => specFirst_calls key x A l cap u hn hcap ((hA.below hb (Nat.le_refl _)).more hb.size))
 have TO := Lib.hid (fun (u : World) (hb : Below w.heap.size w u) => specTrustOk_calls key x A l cap t0 t1 t2 t3 t4 t5 t6 false u hn ((hA.below hb (Nat.le_refl _)).more hb.size))
 have CO := Lib.hid (fun (u : World) => specCellOk_calls ct cv u)
 have hf : 0 ≤ firstOf key l x ∧ firstOf key l x ≤ 32 := by
  obtain ⟨r, hr⟩ : ∃ r : Nat, x = r := ⟨x.toNat, by have := ht.2.1; omega⟩
  have hl : r < l.length := by have := ht.2.1; omega
  rw [hr, firstOf_yes ht.1 hl]
  have h1 := upTo_bd ht.1.2.2.1 (show r ≤ l.length by omega)
  have h2 := ht.1.2.1.2
  omega
 have hd : decide (firstOf key l x < 0) = false := decide_eq_false (by omega)
 rw [trustB_yes ht] at TO
 rw [decide_eq_true hc] at CO
 clear ht hc hf hA hn
 generalize firstOf key l x = f at FI hd
 by_cases h0 : 100000 ≤ t0
 ·have b0 : decide (100000 ≤ t0) = true := decide_eq_true h0
  go_enter Tryz.func84, Tryz.ntmps84
  go_wp2_with fail
  refine (FI.out _ K0.out.1).mono ?_; rintro e uz1 ⟨rfl, bz2⟩
  have hz3 := K0.out.below bz2
  clear bz2
  obtain ⟨kc0, kf0, kc1, kf1, kc2, kf2, kc3, kf3, kc4, kf4, -⟩ := hz3.rd
  go_wp2_with fail
  refine (TO.out _ hz3.1).mono ?_; rintro e uz4 ⟨rfl, bz5⟩
  have hz6 := hz3.below bz5
  clear bz5 hz3 kc0 kf0 kc1 kf1 kc2 kf2 kc3 kf3 kc4 kf4
  obtain ⟨kc0, kf0, kc1, kf1, kc2, kf2, kc3, kf3, kc4, kf4, -⟩ := hz6.rd
  go_wp2_with fail
  refine (CO.out _).mono ?_; rintro e uz7 ⟨rfl, bz8⟩
  have hz9 := hz6.below bz8
  clear bz8 hz6 kc0 kf0 kc1 kf1 kc2 kf2 kc3 kf3 kc4 kf4
  obtain ⟨kc0, kf0, kc1, kf1, kc2, kf2, kc3, kf3, kc4, kf4, -⟩ := hz9.rd
  go_upto_region 7 with fail
  have hst : ∀ x ∈ ([(2, w.heap.size + 1 + 1 + 1, 67, (tA t0 t1 t2 t3 t4 t5 t6 false)), (3, w.heap.size + 1 + 1 + 1 + 1, 55, (cA ct cv))] : List Res), w.heap.size ≤ x.2.1 ∧ (∀ y ∈ ([(w.heap.size + 1 + 1, 55, (cA ct cv)), (w.heap.size + 1, 67, (tA t0 t1 t2 t3 t4 t5 t6 false)), (w.heap.size, 26, (pA key A l.length cap))] : List Box), y.1 ≠ x.2.1) ∧ ∃ z, CellsAt uz7 x.2.1 x.2.2.1 z ∧ z.size = x.2.2.2.size := by
   intro y hy
   simp only [List.mem_cons, List.not_mem_nil, or_false] at hy
   rcases hy with rfl | rfl
   ·exact ⟨by simp only [] <;> omega, by intro y hy; simp at hy; rcases hy with rfl | rfl | rfl <;> simp <;> omega, _, hz9.at_ (t := 67) (cs := zT) (by simp), rfl⟩
   ·exact ⟨by simp only [] <;> omega, by intro y hy; simp at hy; rcases hy with rfl | rfl | rfl <;> simp <;> omega, _, hz9.at_ (t := 55) (cs := zC) (by simp), rfl⟩
  have hn0 : Kept w [(w.heap.size + 1 + 1, 55, (cA ct cv)), (w.heap.size + 1, 67, (tA t0 t1 t2 t3 t4 t5 t6 false)), (w.heap.size, 26, (pA key A l.length cap))] _ := hz9.sub (by intro y hy; simp at hy ⊢; rcases hy with rfl | rfl | rfl <;> simp)
  refine wp_region_free [false, false, true, true, false] (ShV []) (fun D _ u => ResC w [(w.heap.size + 1 + 1, 55, (cA ct cv)), (w.heap.size + 1, 67, (tA t0 t1 t2 t3 t4 t5 t6 false)), (w.heap.size, 26, (pA key A l.length cap))] [(2, w.heap.size + 1 + 1 + 1, 67, (tA t0 t1 t2 t3 t4 t5 t6 false)), (3, w.heap.size + 1 + 1 + 1 + 1, 55, (cA ct cv))] D u) (by kernel_rfl) (by kernel_rfl) (fun γ => by kernel_rfl) (fun D γ γ' w _ h => h) (ShV.inh _) (fun γ => ResC.start hn0 hst) (fun γ hγ => ?_)
  clear hst hn0
  have g2 : γ 2 = undef := hγ 2 rfl
  have g3 : γ 3 = undef := hγ 3 rfl
  clear hz9 kc0 kf0 kc1 kf1 kc2 kf2 kc3 kf3 kc4 kf4
  apply Exists.intro
  refine ⟨fun D => ?_, ?_, ?_⟩
  ·simp only [hushL, cond_true, cond_false, Nat.reduceAdd, g2, g3]
   iterate 5 (first
    | go_big_quiet_skip
    | (go_big_quiet_want
       go_big_quiet_op
       first
        | go_big_quiet_on
        | (apply Exists.intro
           refine ⟨fun u hu => ?_, ?_⟩
           ·first
              | with_reducible rfl
              | (obtain ⟨kc0, kf0, kc1, kf1, kc2, kf2, -⟩ := hu.1.rd; go_simp; first | done | with_reducible rfl)
           go_big_quiet_on)))
   exact wpQuiet_nil rfl
  ·simp only [freeOk, Nat.reduceAdd]
   refine ⟨fun D u hD hd hu => ?_, fun D u hD hd hu => ?_, trivial⟩
   ·obtain ⟨z, hz, hzs⟩ := hu.at_ (k := 2) (p := w.heap.size + 1 + 1 + 1) (t := 67) (V := (tA t0 t1 t2 t3 t4 t5 t6 false)) (by simp)
    exact steps_store hz rfl rfl rfl (by kernel_rfl) hzs (by simp [Value.oneCell']) (fun w' hc hg => ⟨rfl, hu.stored (by simp) (by simp) hg hc⟩)
   ·obtain ⟨z, hz, hzs⟩ := hu.at_ (k := 3) (p := w.heap.size + 1 + 1 + 1 + 1) (t := 55) (V := (cA ct cv)) (by simp)
    exact steps_store hz rfl rfl rfl (by kernel_rfl) hzs (by simp [Value.oneCell']) (fun w' hc hg => ⟨rfl, hu.stored (by simp) (by simp) hg hc⟩)
  ·intro D uf hD hu
   have hf := hu.done (by intro y hy; simp only [List.mem_cons, List.not_mem_nil, or_false] at hy; rcases hy with rfl | rfl; exact hD 2 (by simp) rfl; exact hD 3 (by simp) rfl)
   clear hu hD
   obtain ⟨kc0, kf0, kc1, kf1, kc2, kf2, kc3, kf3, kc4, kf4, -⟩ := hf.rd
   go_wp2_with fail
   exact bodyPost_ret (v := (.tuple #[.agg (tA t0 t1 t2 t3 t4 t5 t6 false), .agg (cA ct cv), .int .i64 3])) (by simp [results, Tryz.results84, go_sem, kc0, kc1]) rfl ⟨rfl, hf.1⟩
 ·have b0 : decide (100000 ≤ t0) = false := decide_eq_false h0
  have b1 : decide (1000 ≤ t1) = true := decide_eq_true (by omega)
  go_enter Tryz.func84, Tryz.ntmps84
  go_wp2_with fail
  refine (FI.out _ K0.out.1).mono ?_; rintro e uz1 ⟨rfl, bz2⟩
  have hz3 := K0.out.below bz2
  clear bz2
  obtain ⟨kc0, kf0, kc1, kf1, kc2, kf2, kc3, kf3, kc4, kf4, -⟩ := hz3.rd
  go_wp2_with fail
  refine (TO.out _ hz3.1).mono ?_; rintro e uz4 ⟨rfl, bz5⟩
  have hz6 := hz3.below bz5
  clear bz5 hz3 kc0 kf0 kc1 kf1 kc2 kf2 kc3 kf3 kc4 kf4
  obtain ⟨kc0, kf0, kc1, kf1, kc2, kf2, kc3, kf3, kc4, kf4, -⟩ := hz6.rd
  go_wp2_with fail
  refine (CO.out _).mono ?_; rintro e uz7 ⟨rfl, bz8⟩
  have hz9 := hz6.below bz8
  clear bz8 hz6 kc0 kf0 kc1 kf1 kc2 kf2 kc3 kf3 kc4 kf4
  obtain ⟨kc0, kf0, kc1, kf1, kc2, kf2, kc3, kf3, kc4, kf4, -⟩ := hz9.rd
  go_upto_region 7 with fail
  have hst : ∀ x ∈ ([(2, w.heap.size + 1 + 1 + 1, 67, (tA t0 t1 t2 t3 t4 t5 t6 false)), (3, w.heap.size + 1 + 1 + 1 + 1, 55, (cA ct cv))] : List Res), w.heap.size ≤ x.2.1 ∧ (∀ y ∈ ([(w.heap.size + 1 + 1, 55, (cA ct cv)), (w.heap.size + 1, 67, (tA t0 t1 t2 t3 t4 t5 t6 false)), (w.heap.size, 26, (pA key A l.length cap))] : List Box), y.1 ≠ x.2.1) ∧ ∃ z, CellsAt uz7 x.2.1 x.2.2.1 z ∧ z.size = x.2.2.2.size := by
   intro y hy
   simp only [List.mem_cons, List.not_mem_nil, or_false] at hy
   rcases hy with rfl | rfl
   ·exact ⟨by simp only [] <;> omega, by intro y hy; simp at hy; rcases hy with rfl | rfl | rfl <;> simp <;> omega, _, hz9.at_ (t := 67) (cs := zT) (by simp), rfl⟩
   ·exact ⟨by simp only [] <;> omega, by intro y hy; simp at hy; rcases hy with rfl | rfl | rfl <;> simp <;> omega, _, hz9.at_ (t := 55) (cs := zC) (by simp), rfl⟩
  have hn0 : Kept w [(w.heap.size + 1 + 1, 55, (cA ct cv)), (w.heap.size + 1, 67, (tA t0 t1 t2 t3 t4 t5 t6 false)), (w.heap.size, 26, (pA key A l.length cap))] _ := hz9.sub (by intro y hy; simp at hy ⊢; rcases hy with rfl | rfl | rfl <;> simp)
  refine wp_region_free [false, false, true, true, false] (ShV []) (fun D _ u => ResC w [(w.heap.size + 1 + 1, 55, (cA ct cv)), (w.heap.size + 1, 67, (tA t0 t1 t2 t3 t4 t5 t6 false)), (w.heap.size, 26, (pA key A l.length cap))] [(2, w.heap.size + 1 + 1 + 1, 67, (tA t0 t1 t2 t3 t4 t5 t6 false)), (3, w.heap.size + 1 + 1 + 1 + 1, 55, (cA ct cv))] D u) (by kernel_rfl) (by kernel_rfl) (fun γ => by kernel_rfl) (fun D γ γ' w _ h => h) (ShV.inh _) (fun γ => ResC.start hn0 hst) (fun γ hγ => ?_)
  clear hst hn0
  have g2 : γ 2 = undef := hγ 2 rfl
  have g3 : γ 3 = undef := hγ 3 rfl
  clear hz9 kc0 kf0 kc1 kf1 kc2 kf2 kc3 kf3 kc4 kf4
  apply Exists.intro
  refine ⟨fun D => ?_, ?_, ?_⟩
  ·simp only [hushL, cond_true, cond_false, Nat.reduceAdd, g2, g3]
   iterate 5 (first
    | go_big_quiet_skip
    | (go_big_quiet_want
       go_big_quiet_op
       first
        | go_big_quiet_on
        | (apply Exists.intro
           refine ⟨fun u hu => ?_, ?_⟩
           ·first
              | with_reducible rfl
              | (obtain ⟨kc0, kf0, kc1, kf1, kc2, kf2, -⟩ := hu.1.rd; go_simp; first | done | with_reducible rfl)
           go_big_quiet_on)))
   exact wpQuiet_nil rfl
  ·simp only [freeOk, Nat.reduceAdd]
   refine ⟨fun D u hD hd hu => ?_, fun D u hD hd hu => ?_, trivial⟩
   ·obtain ⟨z, hz, hzs⟩ := hu.at_ (k := 2) (p := w.heap.size + 1 + 1 + 1) (t := 67) (V := (tA t0 t1 t2 t3 t4 t5 t6 false)) (by simp)
    exact steps_store hz rfl rfl rfl (by kernel_rfl) hzs (by simp [Value.oneCell']) (fun w' hc hg => ⟨rfl, hu.stored (by simp) (by simp) hg hc⟩)
   ·obtain ⟨z, hz, hzs⟩ := hu.at_ (k := 3) (p := w.heap.size + 1 + 1 + 1 + 1) (t := 55) (V := (cA ct cv)) (by simp)
    exact steps_store hz rfl rfl rfl (by kernel_rfl) hzs (by simp [Value.oneCell']) (fun w' hc hg => ⟨rfl, hu.stored (by simp) (by simp) hg hc⟩)
  ·intro D uf hD hu
   have hf := hu.done (by intro y hy; simp only [List.mem_cons, List.not_mem_nil, or_false] at hy; rcases hy with rfl | rfl; exact hD 2 (by simp) rfl; exact hD 3 (by simp) rfl)
   clear hu hD
   obtain ⟨kc0, kf0, kc1, kf1, kc2, kf2, kc3, kf3, kc4, kf4, -⟩ := hf.rd
   go_wp2_with fail
   exact bodyPost_ret (v := (.tuple #[.agg (tA t0 t1 t2 t3 t4 t5 t6 false), .agg (cA ct cv), .int .i64 3])) (by simp [results, Tryz.results84, go_sem, kc0, kc1]) rfl ⟨rfl, hf.1⟩
set_option maxRecDepth 20000 in
set_option maxHeartbeats 4000000 in
theorem specScanned_caught (key x ct cv : Int) (A : Option Addr) (l : List Int) (cap : Nat) (t0 t1 t2 t3 t4 t5 t6 : Int) (w : World) (hn : l.length ≤ maxLen) (hcap : l.length ≤ cap) (hA : Ints w .i64 w.heap.size A l) (ht : trustOk key l x ⟨t0, t1, t2, t3, t4, t5, t6, false⟩) (hc : isCell ct cv) (h0 : ¬ 100000 ≤ t0) (h1 : ¬ 1000 ≤ t1) (hct : t0 < ct) :
    Calls Tryz.prog 84 #[.agg (pA key A l.length cap), .int .i64 x, .agg (tA t0 t1 t2 t3 t4 t5 t6 false), .agg (cA ct cv)] w fun e w' => e = .returned (.tuple #[.agg (tA t0 t1 t2 t3 t4 t5 t6 true), .agg (cA ct cv), .int .i64 4]) ∧ Below w.heap.size w w' := by
 have K0 := Lib.hid (show Kept w [(w.heap.size + 1 + 1 + 1 + 1, 55, zC), (w.heap.size + 1 + 1 + 1, 67, zT), (w.heap.size + 1 + 1, 55, (cA ct cv)), (w.heap.size + 1, 67, (tA t0 t1 t2 t3 t4 t5 t6 false)), (w.heap.size, 26, (pA key A l.length cap))] _ from ((((((Kept.refl w).put1 _ _ (pA key A l.length cap) rfl).put1 _ _ (tA t0 t1 t2 t3 t4 t5 t6 false) (by simp)).put1 _ _ (cA ct cv) (by simp)).put1 _ _ zT (by simp)).put1 _ _ zC (by simp)))
 have FI := Lib.hid (fun (u : World) (hb : Below w.heap.size w u) => specFirst_calls key x A l cap u hn hcap ((hA.below hb (Nat.le_refl _)).more hb.size))
 have TO := Lib.hid (fun (u : World) (hb : Below w.heap.size w u) => specTrustOk_calls key x A l cap t0 t1 t2 t3 t4 t5 t6 false u hn ((hA.below hb (Nat.le_refl _)).more hb.size))
 have CO := Lib.hid (fun (u : World) => specCellOk_calls ct cv u)
 have hf : 0 ≤ firstOf key l x ∧ firstOf key l x ≤ 32 := by
  obtain ⟨r, hr⟩ : ∃ r : Nat, x = r := ⟨x.toNat, by have := ht.2.1; omega⟩
  have hl : r < l.length := by have := ht.2.1; omega
  rw [hr, firstOf_yes ht.1 hl]
  have h1 := upTo_bd ht.1.2.2.1 (show r ≤ l.length by omega)
  have h2 := ht.1.2.1.2
  omega
 have hd : decide (firstOf key l x < 0) = false := decide_eq_false (by omega)
 rw [trustB_yes ht] at TO
 rw [decide_eq_true hc] at CO
 clear ht hc hf hA hn
 generalize firstOf key l x = f at FI hd
 have b0 : decide (100000 ≤ t0) = false := decide_eq_false h0
 have b1 : decide (1000 ≤ t1) = false := decide_eq_false h1
 go_enter Tryz.func84, Tryz.ntmps84
 go_wp2_with fail
 refine (FI.out _ K0.out.1).mono ?_; rintro e uz1 ⟨rfl, bz2⟩
 have hz3 := K0.out.below bz2
 clear bz2
 obtain ⟨kc0, kf0, kc1, kf1, kc2, kf2, kc3, kf3, kc4, kf4, -⟩ := hz3.rd
 go_wp2_with fail
 refine (TO.out _ hz3.1).mono ?_; rintro e uz4 ⟨rfl, bz5⟩
 have hz6 := hz3.below bz5
 clear bz5 hz3 kc0 kf0 kc1 kf1 kc2 kf2 kc3 kf3 kc4 kf4
 obtain ⟨kc0, kf0, kc1, kf1, kc2, kf2, kc3, kf3, kc4, kf4, -⟩ := hz6.rd
 go_wp2_with fail
 refine (CO.out _).mono ?_; rintro e uz7 ⟨rfl, bz8⟩
 have hz9 := hz6.below bz8
 clear bz8 hz6 kc0 kf0 kc1 kf1 kc2 kf2 kc3 kf3 kc4 kf4
 obtain ⟨kc0, kf0, kc1, kf1, kc2, kf2, kc3, kf3, kc4, kf4, -⟩ := hz9.rd
 go_upto_region 10 with fail
 have hz10 : Kept w [(w.heap.size + 1 + 1 + 1 + 1, 55, zC), (w.heap.size + 1 + 1 + 1, 67, zT), (w.heap.size + 1 + 1, 55, (cA ct cv)), (w.heap.size + 1, 67, (tA t0 t1 t2 t3 t4 t5 t6 true)), (w.heap.size, 26, (pA key A l.length cap))] _ := hz9.put (k := 3) rfl (by unfold Apart; simp <;> omega) (gb_set (gb_refl _ (some (w.heap.size + 1))) 7 (.bool true)) ((hz9.at_ (p := w.heap.size + 1) (t := 67) (cs := (tA t0 t1 t2 t3 t4 t5 t6 false)) (by simp)).set_ 7 _)
 clear hz9 kc0 kf0 kc1 kf1 kc2 kf2 kc3 kf3 kc4 kf4
 generalize World.setCell _ _ _ = wq at hz10 ⊢
 obtain ⟨kc0, kf0, kc1, kf1, kc2, kf2, kc3, kf3, kc4, kf4, -⟩ := hz10.rd
 have hst : ∀ x ∈ ([(2, w.heap.size + 1 + 1 + 1, 67, (tA t0 t1 t2 t3 t4 t5 t6 true)), (3, w.heap.size + 1 + 1 + 1 + 1, 55, (cA ct cv))] : List Res), w.heap.size ≤ x.2.1 ∧ (∀ y ∈ ([(w.heap.size + 1 + 1, 55, (cA ct cv)), (w.heap.size + 1, 67, (tA t0 t1 t2 t3 t4 t5 t6 true)), (w.heap.size, 26, (pA key A l.length cap))] : List Box), y.1 ≠ x.2.1) ∧ ∃ z, CellsAt wq x.2.1 x.2.2.1 z ∧ z.size = x.2.2.2.size := by
  intro y hy
  simp only [List.mem_cons, List.not_mem_nil, or_false] at hy
  rcases hy with rfl | rfl
  ·exact ⟨by simp only [] <;> omega, by intro y hy; simp at hy; rcases hy with rfl | rfl | rfl <;> simp <;> omega, _, hz10.at_ (t := 67) (cs := zT) (by simp), rfl⟩
  ·exact ⟨by simp only [] <;> omega, by intro y hy; simp at hy; rcases hy with rfl | rfl | rfl <;> simp <;> omega, _, hz10.at_ (t := 55) (cs := zC) (by simp), rfl⟩
 have hn0 : Kept w [(w.heap.size + 1 + 1, 55, (cA ct cv)), (w.heap.size + 1, 67, (tA t0 t1 t2 t3 t4 t5 t6 true)), (w.heap.size, 26, (pA key A l.length cap))] _ := hz10.sub (by intro y hy; simp at hy ⊢; rcases hy with rfl | rfl | rfl <;> simp)
 refine wp_region_free [false, false, true, true, false] (ShV []) (fun D _ u => ResC w [(w.heap.size + 1 + 1, 55, (cA ct cv)), (w.heap.size + 1, 67, (tA t0 t1 t2 t3 t4 t5 t6 true)), (w.heap.size, 26, (pA key A l.length cap))] [(2, w.heap.size + 1 + 1 + 1, 67, (tA t0 t1 t2 t3 t4 t5 t6 true)), (3, w.heap.size + 1 + 1 + 1 + 1, 55, (cA ct cv))] D u) (by kernel_rfl) (by kernel_rfl) (fun γ => by kernel_rfl) (fun D γ γ' w _ h => h) (ShV.inh _) (fun γ => ResC.start hn0 hst) (fun γ hγ => ?_)
 clear hst hn0
 have g2 : γ 2 = undef := hγ 2 rfl
 have g3 : γ 3 = undef := hγ 3 rfl
 clear hz10 kc0 kf0 kc1 kf1 kc2 kf2 kc3 kf3 kc4 kf4
 apply Exists.intro
 refine ⟨fun D => ?_, ?_, ?_⟩
 ·simp only [hushL, cond_true, cond_false, Nat.reduceAdd, g2, g3]
  iterate 5 (first
   | go_big_quiet_skip
   | (go_big_quiet_want
      go_big_quiet_op
      first
       | go_big_quiet_on
       | (apply Exists.intro
          refine ⟨fun u hu => ?_, ?_⟩
          ·first
             | with_reducible rfl
             | (obtain ⟨kc0, kf0, kc1, kf1, kc2, kf2, -⟩ := hu.1.rd; go_simp; first | done | with_reducible rfl)
          go_big_quiet_on)))
  exact wpQuiet_nil rfl
 ·simp only [freeOk, Nat.reduceAdd]
  refine ⟨fun D u hD hd hu => ?_, fun D u hD hd hu => ?_, trivial⟩
  ·obtain ⟨z, hz, hzs⟩ := hu.at_ (k := 2) (p := w.heap.size + 1 + 1 + 1) (t := 67) (V := (tA t0 t1 t2 t3 t4 t5 t6 true)) (by simp)
   exact steps_store hz rfl rfl rfl (by kernel_rfl) hzs (by simp [Value.oneCell']) (fun w' hc hg => ⟨rfl, hu.stored (by simp) (by simp) hg hc⟩)
  ·obtain ⟨z, hz, hzs⟩ := hu.at_ (k := 3) (p := w.heap.size + 1 + 1 + 1 + 1) (t := 55) (V := (cA ct cv)) (by simp)
   exact steps_store hz rfl rfl rfl (by kernel_rfl) hzs (by simp [Value.oneCell']) (fun w' hc hg => ⟨rfl, hu.stored (by simp) (by simp) hg hc⟩)
 ·intro D uf hD hu
  have hf := hu.done (by intro y hy; simp only [List.mem_cons, List.not_mem_nil, or_false] at hy; rcases hy with rfl | rfl; exact hD 2 (by simp) rfl; exact hD 3 (by simp) rfl)
  clear hu hD
  obtain ⟨kc0, kf0, kc1, kf1, kc2, kf2, kc3, kf3, kc4, kf4, -⟩ := hf.rd
  go_wp2_with fail
  exact bodyPost_ret (v := (.tuple #[.agg (tA t0 t1 t2 t3 t4 t5 t6 true), .agg (cA ct cv), .int .i64 4])) (by simp [results, Tryz.results84, go_sem, kc0, kc1]) rfl ⟨rfl, hf.1⟩
noncomputable def touched (key : Int) (l : List Int) (t : Tru) (x ct cv value : Int) : Tru × (Int × Int) × Int × Int :=
 open Classical in
 if touchOk key l t x ct cv value then
  if t.failed = true then (t, (ct, cv), 0, 2)
  else if 100000 ≤ t.clock then (t, (ct, cv), 0, 3)
  else if t.clock < ct then (⟨t.clock, t.epoch, t.cursor, t.read, t.written, t.nread, t.nwritten, true⟩, (ct, cv), 0, 4)
  else (sumsT key ⟨t.clock + 1, t.epoch, t.cursor, t.read, t.written, t.nread, t.nwritten, false⟩ (behindB key l t.cursor x) (tripleIn x ct cv).1 (tripleIn x ct cv).2.1 (tripleIn x ct cv).2.2
      (tripleIn x (cellOf key x (t.clock + 1) (if value = -1 then valueIn key x ct cv else value)).1 (cellOf key x (t.clock + 1) (if value = -1 then valueIn key x ct cv else value)).2).1
      (tripleIn x (cellOf key x (t.clock + 1) (if value = -1 then valueIn key x ct cv else value)).1 (cellOf key x (t.clock + 1) (if value = -1 then valueIn key x ct cv else value)).2).2.1
      (tripleIn x (cellOf key x (t.clock + 1) (if value = -1 then valueIn key x ct cv else value)).1 (cellOf key x (t.clock + 1) (if value = -1 then valueIn key x ct cv else value)).2).2.2,
   cellOf key x (t.clock + 1) (if value = -1 then valueIn key x ct cv else value), valueIn key x ct cv, 0)
 else (zeroTru, (0, 0), 0, 1)
theorem specTouched_calls (key x ct cv value : Int) (A : Option Addr) (l : List Int) (cap : Nat) (t0 t1 t2 t3 t4 t5 t6 : Int) (t7 : Bool) (w : World) (hn : l.length ≤ maxLen) (hcap : l.length ≤ cap) (hA : Ints w .i64 w.heap.size A l) (hxx : I64 x) :
    Calls Tryz.prog 83 #[.agg (pA key A l.length cap), .agg (tA t0 t1 t2 t3 t4 t5 t6 t7), .int .i64 x, .agg (cA ct cv), .int .i64 value] w fun e w' => e = .returned (.tuple #[.agg (tR ((touched key l ⟨t0, t1, t2, t3, t4, t5, t6, t7⟩ x ct cv value).1)), .agg (cA ((touched key l ⟨t0, t1, t2, t3, t4, t5, t6, t7⟩ x ct cv value).2.1.1) ((touched key l ⟨t0, t1, t2, t3, t4, t5, t6, t7⟩ x ct cv value).2.1.2)), .int .i64 (touched key l ⟨t0, t1, t2, t3, t4, t5, t6, t7⟩ x ct cv value).2.2.1, .int .i64 (touched key l ⟨t0, t1, t2, t3, t4, t5, t6, t7⟩ x ct cv value).2.2.2]) ∧ Below w.heap.size w w' := by
 unfold touched
 by_cases h : touchOk key l ⟨t0, t1, t2, t3, t4, t5, t6, t7⟩ x ct cv value
 ·rw [if_pos h]
  cases t7 with
  | true => rw [if_pos rfl]; exact specTouched_failed key x ct cv value A l cap t0 t1 t2 t3 t4 t5 t6 w hn hcap hA h.1 h.2.1 h.2.2.1 h.2.2.2
  | false =>
    rw [if_neg (by simp)]
    by_cases h1 : 100000 ≤ t0
    ·rw [if_pos h1]; exact specTouched_spent key x ct cv value A l cap t0 t1 t2 t3 t4 t5 t6 w hn hcap hA h.1 h.2.1 h.2.2.1 h.2.2.2 h1
    ·rw [if_neg h1]
     by_cases h2 : t0 < ct
     ·rw [if_pos h2]; exact specTouched_caught key x ct cv value A l cap t0 t1 t2 t3 t4 t5 t6 w hn hcap hA h.1 h.2.1 h.2.2.1 h.2.2.2 h1 h2
     ·rw [if_neg h2]; exact specTouched_ok key x ct cv value A l cap t0 t1 t2 t3 t4 t5 t6 w hn hcap hA h.1 h.2.1 h.2.2.1 h.2.2.2 h1 h2 hxx _ rfl
 ·rw [if_neg h]; exact specTouched_bad key x ct cv value A l cap t0 t1 t2 t3 t4 t5 t6 t7 w hn hcap hA h
noncomputable def touchVol (x : VolN) (a value : Int) : VolN × Int × Int :=
 open Classical in
 if 0 ≤ regionOf x.key x.counts a then
  if (touched x.key x.counts (x.trusts.getD (regionOf x.key x.counts a).toNat default) a (x.cells.getD a.toNat default).1 (x.cells.getD a.toNat default).2 value).2.2.2 = 1 then (x, 0, 1)
  else ({ x with trusts := x.trusts.set (regionOf x.key x.counts a).toNat (touched x.key x.counts (x.trusts.getD (regionOf x.key x.counts a).toNat default) a (x.cells.getD a.toNat default).1 (x.cells.getD a.toNat default).2 value).1,
                 cells := x.cells.set a.toNat (touched x.key x.counts (x.trusts.getD (regionOf x.key x.counts a).toNat default) a (x.cells.getD a.toNat default).1 (x.cells.getD a.toNat default).2 value).2.1 },
   (touched x.key x.counts (x.trusts.getD (regionOf x.key x.counts a).toNat default) a (x.cells.getD a.toNat default).1 (x.cells.getD a.toNat default).2 value).2.2.1,
   (touched x.key x.counts (x.trusts.getD (regionOf x.key x.counts a).toNat default) a (x.cells.getD a.toNat default).1 (x.cells.getD a.toNat default).2 value).2.2.2)
 else (x, 0, 1)
def VolAns (b : World) (r : VolN × Int × Int) (e : Ending) (w' : World) : Prop := ∃ cs, e = .returned (.tuple #[.agg cs, .int .i64 r.2.1, .int .i64 r.2.2]) ∧ VolO w' b.heap.size r.1 (.agg cs) ∧ Below b.heap.size b w'
def VolN.Fit (x : VolN) : Prop := x.trusts.length = x.counts.length ∧ (x.cells.length : Int) = upTo x.counts x.counts.length
theorem vol_end {w w1 : World} {r : Nat} {t : TypeId} {x0 x1 x2 x3 x4 x5 y0 y1 y2 y3 y4 y5 : Value} (hk : CellsAt w1 r t #[y0, y1, y2, y3, y4, y5]) (hb : Below w.heap.size w w1) (hr : w.heap.size ≤ r) :
    ∃ w4, ((((((w1.setCell ⟨r, 0, none⟩ x0).setCell ⟨r, 1, none⟩ x1).setCell ⟨r, 2, none⟩ x2).setCell ⟨r, 3, none⟩ x3).setCell ⟨r, 4, none⟩ x4).setCell ⟨r, 5, none⟩ x5) = w4 ∧ (w4.cell? ⟨r, 0, none⟩ = some x0 ∧ w4.cell? ⟨r, 1, none⟩ = some x1 ∧ w4.cell? ⟨r, 2, none⟩ = some x2 ∧ w4.cell? ⟨r, 3, none⟩ = some x3 ∧ w4.cell? ⟨r, 4, none⟩ = some x4 ∧ w4.cell? ⟨r, 5, none⟩ = some x5) ∧ Below w.heap.size w w4 ∧ w1.grownBy w4 (some r) := by
 have h := (((((hk.set_ 0 x0).set_ 1 x1).set_ 2 x2).set_ 3 x3).set_ 4 x4).set_ 5 x5
 simp only [List.setIfInBounds_toArray, List.set_cons_zero, List.set_cons_succ] at h
 have hb2 := (((((hb.setCell (p := ⟨r, 0, none⟩) hr x0).setCell (p := ⟨r, 1, none⟩) hr x1).setCell (p := ⟨r, 2, none⟩) hr x2).setCell (p := ⟨r, 3, none⟩) hr x3).setCell (p := ⟨r, 4, none⟩) hr x4).setCell (p := ⟨r, 5, none⟩) hr x5
 have hg := gb_set (gb_set (gb_set (gb_set (gb_set (gb_set (gb_refl w1 (some r)) 0 x0) 1 x1) 2 x2) 3 x3) 4 x4) 5 x5
 generalize World.setCell _ _ _ = w4 at h hb2 hg ⊢
 exact ⟨w4, rfl, ⟨h.cell 0, h.cell 1, h.cell 2, h.cell 3, h.cell 4, h.cell 5⟩, hb2, hg⟩
set_option maxRecDepth 20000 in
set_option maxHeartbeats 4000000 in
theorem l12Touch_none (x : VolN) (A : Option Addr) (cap : Nat) (B : Option Addr) (tc : Nat) (C : Option Addr) (cc : Nat) (b off sc : Nat) (w : World) (hx : x.Short) (hcap : x.counts.length ≤ cap) (hA : Ints w .i64 w.heap.size A x.counts) (hB : Trs w w.heap.size B x.trusts) (hC : Cls w w.heap.size C x.cells) (hbb : b < w.heap.size) (h0 : SlotAt w w.heap.size b off x.s0) (h1 : SlotAt w w.heap.size b (off + 4) x.s1) (a value : Int) (hr : ¬ 0 ≤ regionOf x.key x.counts a) :
    Calls Tryz.prog 56 #[.agg (vX x A cap B tc C cc b off sc), .int .i64 a, .int .i64 value] w (VolAns w (x, 0, 1)) := by
 have K0 := Lib.hid (show Kept w [(w.heap.size + 1, 45, zV), (w.heap.size, 45, (vX x A cap B tc C cc b off sc))] _ from (((Kept.refl w).put1 _ _ (vX x A cap B tc C cc b off sc) rfl).put1 _ _ zV (by simp)))
 have CO := Lib.hid (fun (u : World) (hb : Below w.heap.size w u) => l12Copy_calls x A cap B tc C cc b off sc u hx ((hA.below hb (Nat.le_refl _)).more hb.size) ((hB.below hb (Nat.le_refl _)).more hb.size) ((hC.below hb (Nat.le_refl _)).more hb.size) (Nat.lt_of_lt_of_le hbb hb.size) ((h0.below hb (Nat.le_refl _) hbb).more hb.size) ((h1.below hb (Nat.le_refl _) hbb).more hb.size))
 have hn : x.counts.length ≤ maxLen := by have := hx.1; unfold maxLen; omega
 have R := Lib.hid (fun (u : World) (hb : Below w.heap.size w u) => specRegion_calls x.key a A x.counts cap u hn hcap ((hA.below hb (Nat.le_refl _)).more hb.size))
 have hd : decide (regionOf x.key x.counts a < 0) = true := decide_eq_true (by omega)
 clear hA hB hC h0 h1 hn
 generalize regionOf x.key x.counts a = r at R hd
 clear hr
 go_enter Tryz.func56, Tryz.ntmps56
 go_wp2_with fail
 refine (CO.out _ K0.out.1).mono ?_; rintro e u1 ⟨vv, rfl, hv, hb1⟩
 have hk1 := K0.out.below hb1
 obtain ⟨A', c', B', d', C', e', b', o', s', rfl, -⟩ := hv.reads
 have hv1 := hv.mono (show w.heap.size + 1 + 1 ≤ _ by simp)
 have lo0 : w.heap.size + 1 < u1.heap.size := hk1.lt (x := (w.heap.size + 1, 45, zV)) (by simp)
 have lo1 : w.heap.size < u1.heap.size := hk1.lt (x := (w.heap.size, 45, (vX x A cap B tc C cc b off sc))) (by simp)
 have hk2 := hk1.put1 u1.heap.size 45 (vX x A' c' B' d' C' e' b' o' s') rfl
 have hv2 := hv1.below ((Below.refl _ _).alloc (Nat.le_refl _) (.cells (vX x A' c' B' d' C' e' b' o' s') 45))
 clear hb1 hk1 hv hv1 CO
 go_upto_region 2 with fail
 obtain ⟨kc0, kf0, kc1, kf1, kc2, kf2, -⟩ := hk2.rd
 have HV := Lib.hid hv2
 clear hv2
 go_wp2_with fail
 refine (R.out _ hk2.1).mono ?_; rintro e u2 ⟨rfl, hb2⟩
 have hk3 := hk2.below hb2
 have hv3 := HV.out.below hb2
 clear kc0 kf0 kc1 kf1 kc2 kf2 hb2 hk2 HV
 obtain ⟨kc0, kf0, kc1, kf1, kc2, kf2, -⟩ := hk3.rd
 have HV := Lib.hid hv3
 clear hv3
 go_wp2_with fail
 obtain ⟨w9, e9, ⟨d0, d1, d2, d3, d4, d5⟩, hb9, hg9⟩ := vol_end (w := w) (x0 := .int .i64 x.key) (x1 := .slice A' x.counts.length c') (x2 := .slice B' x.trusts.length d') (x3 := .slice C' x.cells.length e') (x4 := .slice (some ⟨b', o', none⟩) 2 s') (x5 := .int .i64 x.count) (hk3.at_ (p := w.heap.size + 1) (t := 45) (cs := zV) (by simp)) hk3.1 (by omega)
 rw [e9]
 exact bodyPost_ret (v := .tuple #[.agg (vX x A' c' B' d' C' e' b' o' s'), .int .i64 0, .int .i64 1]) (by simp [results, Tryz.results56, go_sem, d0, d1, d2, d3, d4, d5]) rfl ⟨_, rfl, (HV.out.out hg9 (by omega)).mono (by omega), hb9⟩
end Go.Proofs.YtjbnknccnhdapaaGreat.Mx

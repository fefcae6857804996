import Derived.Test.YtgaecedhkbneaaaGreatDoorH13
namespace Go.Proofs.YtgaecedhkbneaaaGreatDoor.Mx
open Go.ChangeShapes Go.WideShapes Go.ChangeAt Go.RowKit
set_option linter.unusedVariables false
def verdictOf (t : Tru) : Tru × Int :=
  if t.read = t.written then (⟨t.clock, t.epoch + 1, 0, t.nread, t.nwritten, 0, 0, t.failed⟩, 5) else (⟨t.clock, t.epoch, 0, t.read, t.written, 0, 0, true⟩, 4)
def zeroTru : Tru := ⟨0, 0, 0, 0, 0, 0, 0, false⟩
def scanOk (key : Int) (l : List Int) (x : Int) (t : Tru) (ct cv : Int) : Prop := trustOk key l x t ∧ isCell ct cv
noncomputable def scanMid (key : Int) (l : List Int) (x : Int) (t : Tru) (ct cv : Int) : Tru :=
  ⟨t.clock + 1, t.epoch, t.cursor + 1, addOf t.read (tagOf key (tripleIn (firstOf key l x + t.cursor) ct cv).1 (tripleIn (firstOf key l x + t.cursor) ct cv).2.1 (tripleIn (firstOf key l x + t.cursor) ct cv).2.2), t.written, t.nread,
    addOf t.nwritten (tagOf key (tripleIn (firstOf key l x + t.cursor) (cellOf key (firstOf key l x + t.cursor) (t.clock + 1) (valueIn key (firstOf key l x + t.cursor) ct cv)).1 (cellOf key (firstOf key l x + t.cursor) (t.clock + 1) (valueIn key (firstOf key l x + t.cursor) ct cv)).2).1
      (tripleIn (firstOf key l x + t.cursor) (cellOf key (firstOf key l x + t.cursor) (t.clock + 1) (valueIn key (firstOf key l x + t.cursor) ct cv)).1 (cellOf key (firstOf key l x + t.cursor) (t.clock + 1) (valueIn key (firstOf key l x + t.cursor) ct cv)).2).2.1
      (tripleIn (firstOf key l x + t.cursor) (cellOf key (firstOf key l x + t.cursor) (t.clock + 1) (valueIn key (firstOf key l x + t.cursor) ct cv)).1 (cellOf key (firstOf key l x + t.cursor) (t.clock + 1) (valueIn key (firstOf key l x + t.cursor) ct cv)).2).2.2), t.failed⟩
theorem l9Verdict_calls (t0 t1 t2 t3 t4 t5 t6 : Int) (t7 : Bool) (w : World) (h1 : 0 ≤ t1) (h1' : t1 ≤ 1000) :
    Calls Tryz.prog 173 #[.agg (tA t0 t1 t2 t3 t4 t5 t6 t7)] w fun e w' => e = .returned (.tuple #[.agg (tR ((verdictOf ⟨t0, t1, t2, t3, t4, t5, t6, t7⟩).1)), .int .i64 (verdictOf ⟨t0, t1, t2, t3, t4, t5, t6, t7⟩).2]) ∧ Below w.heap.size w w' := by
  by_cases h : t3 = t4
  · have e : verdictOf ⟨t0, t1, t2, t3, t4, t5, t6, t7⟩ = (⟨t0, t1 + 1, 0, t5, t6, 0, 0, t7⟩, 5) := by unfold verdictOf; rw [if_pos h]
    rw [e]
    have hb : (t3 == t4) = true := by simpa using h
    clear h e
    go_enter Tryz.func173, Tryz.ntmps173
    go_wp2_with fail
    refine bodyPost_ret (v := .tuple #[.agg (tA t0 (t1 + 1) 0 t5 t6 0 0 t7), .int .i64 5]) (by simp [results, Tryz.results173, go_sem]) rfl ⟨rfl, ((Below.refl _ _).alloc (Nat.le_refl _) _).alloc (by simp) _⟩
  · have e : verdictOf ⟨t0, t1, t2, t3, t4, t5, t6, t7⟩ = (⟨t0, t1, 0, t3, t4, 0, 0, true⟩, 4) := by unfold verdictOf; rw [if_neg h]
    rw [e]
    have hb : (t3 == t4) = false := by simpa using h
    clear h e
    go_enter Tryz.func173, Tryz.ntmps173
    go_wp2_with fail
    refine bodyPost_ret (v := .tuple #[.agg (tA t0 t1 0 t3 t4 0 0 true), .int .i64 4]) (by simp [results, Tryz.results173, go_sem]) rfl ⟨rfl, ((Below.refl _ _).alloc (Nat.le_refl _) _).alloc (by simp) _⟩
set_option maxRecDepth 20000 in
set_option maxHeartbeats 4000000 in
theorem specScanned_bad (key x ct cv : Int) (A : Option Addr) (l : List Int) (cap : Nat) (t0 t1 t2 t3 t4 t5 t6 : Int) (t7 : Bool) (w : World) (hn : l.length ≤ maxLen) (hcap : l.length ≤ cap) (hA : Ints w .i64 w.heap.size A l) (h : ¬ scanOk key l x ⟨t0, t1, t2, t3, t4, t5, t6, t7⟩ ct cv) :
    Calls Tryz.prog 105 #[.agg (pA key A l.length cap), .int .i64 x, .agg (tA t0 t1 t2 t3 t4 t5 t6 t7), .agg (cA ct cv)] w fun e w' => e = .returned (.tuple #[.agg zT, .agg zC, .int .i64 1]) ∧ Below w.heap.size w w' := by
  have K0 := Lib.hid (show Kept w [(w.heap.size + 1 + 1 + 1 + 1, 112, zC), (w.heap.size + 1 + 1 + 1, 80, zT), (w.heap.size + 1 + 1, 112, (cA ct cv)), (w.heap.size + 1, 80, (tA t0 t1 t2 t3 t4 t5 t6 t7)), (w.heap.size, 26, (pA key A l.length cap))] _ from ((((((Kept.refl w).put1 _ _ (pA key A l.length cap) rfl).put1 _ _ (tA t0 t1 t2 t3 t4 t5 t6 t7) (by simp)).put1 _ _ (cA ct cv) (by simp)).put1 _ _ zT (by simp)).put1 _ _ zC (by simp)))
  have FI := Lib.hid (fun (u : World) (hb : Below w.heap.size w u) => specFirst_calls key x A l cap u hn hcap ((hA.below hb (Nat.le_refl _)).more hb.size))
  have TO := Lib.hid (fun (u : World) (hb : Below w.heap.size w u) => specTrustOk_calls key x A l cap t0 t1 t2 t3 t4 t5 t6 t7 u hn ((hA.below hb (Nat.le_refl _)).more hb.size))
  have CO := Lib.hid (fun (u : World) => specCellOk_calls ct cv u)
  clear hA hn
  unfold scanOk at h
  by_cases hf : 0 ≤ firstOf key l x
  · have hd : decide (firstOf key l x < 0) = false := decide_eq_false (by omega)
    by_cases ht : trustOk key l x ⟨t0, t1, t2, t3, t4, t5, t6, t7⟩
    · rw [trustB_yes ht] at TO
      rw [decide_eq_false (show ¬ isCell ct cv from fun hc => h ⟨ht, hc⟩)] at CO
      clear h ht hf
      generalize firstOf key l x = f at FI hd
      go_enter Tryz.func105, Tryz.ntmps105
      go_wp2_with fail
      refine (FI.out _ K0.out.1).mono ?_; rintro e uz1 ⟨rfl, bz2⟩
      have hz3 := K0.out.below bz2
      clear bz2
      obtain ⟨kc0, kf0, kc1, kf1, kc2, kf2, kc3, kf3, kc4, kf4, -⟩ := hz3.rd
      go_wp2_with fail
      refine (TO.out _ hz3.1).mono ?_; rintro e uz4 ⟨rfl, bz5⟩
      have hz6 := hz3.below bz5
      clear bz5 hz3 kc0 kf0 kc1 kf1 kc2 kf2 kc3 kf3 kc4 kf4
      obtain ⟨kc0, kf0, kc1, kf1, kc2, kf2, kc3, kf3, kc4, kf4, -⟩ := hz6.rd
      go_wp2_with fail
      refine (CO.out _).mono ?_; rintro e uz7 ⟨rfl, bz8⟩
      have hz9 := hz6.below bz8
      clear bz8 hz6 kc0 kf0 kc1 kf1 kc2 kf2 kc3 kf3 kc4 kf4
      obtain ⟨kc0, kf0, kc1, kf1, kc2, kf2, kc3, kf3, kc4, kf4, -⟩ := hz9.rd
      go_upto_region 3 with fail
      go_wp2_with fail
      obtain ⟨w9, e9, ⟨d0, d1, d2, d3, d4, d5, d6, d7, d8, d9⟩, hb⟩ := touch_end (x0 := .int .i64 0) (x1 := .int .i64 0) (x2 := .int .i64 0) (x3 := .int .i64 0) (x4 := .int .i64 0) (x5 := .int .i64 0) (x6 := .int .i64 0) (x7 := .bool false) (y0 := .int .i64 0) (y1 := .int .i64 0) (hz9.at_ (p := w.heap.size + 1 + 1 + 1) (t := 80) (cs := zT) (by simp)) (hz9.at_ (p := w.heap.size + 1 + 1 + 1 + 1) (t := 112) (cs := zC) (by simp)) (by omega) hz9.1 (by omega) (by omega)
      rw [e9]
      exact bodyPost_ret (v := (.tuple #[.agg zT, .agg zC, .int .i64 1])) (by simp [results, Tryz.results105, go_sem, d0, d1, d2, d3, d4, d5, d6, d7, d8, d9]) rfl ⟨rfl, hb⟩
    · rw [trustB_no ht] at TO
      clear h ht hf CO
      generalize firstOf key l x = f at FI hd
      go_enter Tryz.func105, Tryz.ntmps105
      go_wp2_with fail
      refine (FI.out _ K0.out.1).mono ?_; rintro e uz1 ⟨rfl, bz2⟩
      have hz3 := K0.out.below bz2
      clear bz2
      obtain ⟨kc0, kf0, kc1, kf1, kc2, kf2, kc3, kf3, kc4, kf4, -⟩ := hz3.rd
      go_wp2_with fail
      refine (TO.out _ hz3.1).mono ?_; rintro e uz4 ⟨rfl, bz5⟩
      have hz6 := hz3.below bz5
      clear bz5 hz3 kc0 kf0 kc1 kf1 kc2 kf2 kc3 kf3 kc4 kf4
      obtain ⟨kc0, kf0, kc1, kf1, kc2, kf2, kc3, kf3, kc4, kf4, -⟩ := hz6.rd
      go_upto_region 3 with fail
      go_wp2_with fail
      obtain ⟨w9, e9, ⟨d0, d1, d2, d3, d4, d5, d6, d7, d8, d9⟩, hb⟩ := touch_end (x0 := .int .i64 0) (x1 := .int .i64 0) (x2 := .int .i64 0) (x3 := .int .i64 0) (x4 := .int .i64 0) (x5 := .int .i64 0) (x6 := .int .i64 0) (x7 := .bool false) (y0 := .int .i64 0) (y1 := .int .i64 0) (hz6.at_ (p := w.heap.size + 1 + 1 + 1) (t := 80) (cs := zT) (by simp)) (hz6.at_ (p := w.heap.size + 1 + 1 + 1 + 1) (t := 112) (cs := zC) (by simp)) (by omega) hz6.1 (by omega) (by omega)
      rw [e9]
      exact bodyPost_ret (v := (.tuple #[.agg zT, .agg zC, .int .i64 1])) (by simp [results, Tryz.results105, go_sem, d0, d1, d2, d3, d4, d5, d6, d7, d8, d9]) rfl ⟨rfl, hb⟩
  · have hd : decide (firstOf key l x < 0) = true := decide_eq_true (by omega)
    clear h hf CO TO
    generalize firstOf key l x = f at FI hd
    go_enter Tryz.func105, Tryz.ntmps105
    go_wp2_with fail
    refine (FI.out _ K0.out.1).mono ?_; rintro e uz1 ⟨rfl, bz2⟩
    have hz3 := K0.out.below bz2
    clear bz2
    obtain ⟨kc0, kf0, kc1, kf1, kc2, kf2, kc3, kf3, kc4, kf4, -⟩ := hz3.rd
    go_upto_region 3 with fail
    go_wp2_with fail
    obtain ⟨w9, e9, ⟨d0, d1, d2, d3, d4, d5, d6, d7, d8, d9⟩, hb⟩ := touch_end (x0 := .int .i64 0) (x1 := .int .i64 0) (x2 := .int .i64 0) (x3 := .int .i64 0) (x4 := .int .i64 0) (x5 := .int .i64 0) (x6 := .int .i64 0) (x7 := .bool false) (y0 := .int .i64 0) (y1 := .int .i64 0) (hz3.at_ (p := w.heap.size + 1 + 1 + 1) (t := 80) (cs := zT) (by simp)) (hz3.at_ (p := w.heap.size + 1 + 1 + 1 + 1) (t := 112) (cs := zC) (by simp)) (by omega) hz3.1 (by omega) (by omega)
    rw [e9]
    exact bodyPost_ret (v := (.tuple #[.agg zT, .agg zC, .int .i64 1])) (by simp [results, Tryz.results105, go_sem, d0, d1, d2, d3, d4, d5, d6, d7, d8, d9]) rfl ⟨rfl, hb⟩
set_option maxRecDepth 20000 in
set_option maxHeartbeats 4000000 in
theorem specScanned_failed (key x ct cv : Int) (A : Option Addr) (l : List Int) (cap : Nat) (t0 t1 t2 t3 t4 t5 t6 : Int) (w : World) (hn : l.length ≤ maxLen) (hcap : l.length ≤ cap) (hA : Ints w .i64 w.heap.size A l) (ht : trustOk key l x ⟨t0, t1, t2, t3, t4, t5, t6, true⟩) (hc : isCell ct cv)  :
    Calls Tryz.prog 105 #[.agg (pA key A l.length cap), .int .i64 x, .agg (tA t0 t1 t2 t3 t4 t5 t6 true), .agg (cA ct cv)] w fun e w' => e = .returned (.tuple #[.agg (tA t0 t1 t2 t3 t4 t5 t6 true), .agg (cA ct cv), .int .i64 2]) ∧ Below w.heap.size w w' := by
  have K0 := Lib.hid (show Kept w [(w.heap.size + 1 + 1 + 1 + 1, 112, zC), (w.heap.size + 1 + 1 + 1, 80, zT), (w.heap.size + 1 + 1, 112, (cA ct cv)), (w.heap.size + 1, 80, (tA t0 t1 t2 t3 t4 t5 t6 true)), (w.heap.size, 26, (pA key A l.length cap))] _ from ((((((Kept.refl w).put1 _ _ (pA key A l.length cap) rfl).put1 _ _ (tA t0 t1 t2 t3 t4 t5 t6 true) (by simp)).put1 _ _ (cA ct cv) (by simp)).put1 _ _ zT (by simp)).put1 _ _ zC (by simp)))
  have FI := Lib.hid (fun (u : World) (hb : Below w.heap.size w u) => specFirst_calls key x A l cap u hn hcap ((hA.below hb (Nat.le_refl _)).more hb.size))
  have TO := Lib.hid (fun (u : World) (hb : Below w.heap.size w u) => specTrustOk_calls key x A l cap t0 t1 t2 t3 t4 t5 t6 true u hn ((hA.below hb (Nat.le_refl _)).more hb.size))
  have CO := Lib.hid (fun (u : World) => specCellOk_calls ct cv u)
  have hf : 0 ≤ firstOf key l x ∧ firstOf key l x ≤ 32 := by
    obtain ⟨r, hr⟩ : ∃ r : Nat, x = r := ⟨x.toNat, by have := ht.2.1; omega⟩
    have hl : r < l.length := by have := ht.2.1; omega
    rw [hr, firstOf_yes ht.1 hl]
    have h1 := upTo_bd ht.1.2.2.1 (show r ≤ l.length by omega)
    have h2 := ht.1.2.1.2
    omega
  have hd : decide (firstOf key l x < 0) = false := decide_eq_false (by omega)
  rw [trustB_yes ht] at TO
  rw [decide_eq_true hc] at CO
  clear ht hc hf hA hn
  generalize firstOf key l x = f at FI hd
  go_enter Tryz.func105, Tryz.ntmps105
  go_wp2_with fail
  refine (FI.out _ K0.out.1).mono ?_; rintro e uz1 ⟨rfl, bz2⟩
  have hz3 := K0.out.below bz2
  clear bz2
  obtain ⟨kc0, kf0, kc1, kf1, kc2, kf2, kc3, kf3, kc4, kf4, -⟩ := hz3.rd
  go_wp2_with fail
  refine (TO.out _ hz3.1).mono ?_; rintro e uz4 ⟨rfl, bz5⟩
  have hz6 := hz3.below bz5
  clear bz5 hz3 kc0 kf0 kc1 kf1 kc2 kf2 kc3 kf3 kc4 kf4
  obtain ⟨kc0, kf0, kc1, kf1, kc2, kf2, kc3, kf3, kc4, kf4, -⟩ := hz6.rd
  go_wp2_with fail
  refine (CO.out _).mono ?_; rintro e uz7 ⟨rfl, bz8⟩
  have hz9 := hz6.below bz8
  clear bz8 hz6 kc0 kf0 kc1 kf1 kc2 kf2 kc3 kf3 kc4 kf4
  obtain ⟨kc0, kf0, kc1, kf1, kc2, kf2, kc3, kf3, kc4, kf4, -⟩ := hz9.rd
  go_upto_region 5 with fail
  have hst : ∀ x ∈ ([(2, w.heap.size + 1 + 1 + 1, 80, (tA t0 t1 t2 t3 t4 t5 t6 true)), (3, w.heap.size + 1 + 1 + 1 + 1, 112, (cA ct cv))] : List Res), w.heap.size ≤ x.2.1 ∧ (∀ y ∈ ([(w.heap.size + 1 + 1, 112, (cA ct cv)), (w.heap.size + 1, 80, (tA t0 t1 t2 t3 t4 t5 t6 true)), (w.heap.size, 26, (pA key A l.length cap))] : List Box), y.1 ≠ x.2.1) ∧ ∃ z, CellsAt uz7 x.2.1 x.2.2.1 z ∧ z.size = x.2.2.2.size := by
    intro y hy
    simp only [List.mem_cons, List.not_mem_nil, or_false] at hy
    rcases hy with rfl | rfl
    · exact ⟨by simp only [] <;> omega, by intro y hy; simp at hy; rcases hy with rfl | rfl | rfl <;> simp <;> omega, _, hz9.at_ (t := 80) (cs := zT) (by simp), rfl⟩
    · exact ⟨by simp only [] <;> omega, by intro y hy; simp at hy; rcases hy with rfl | rfl | rfl <;> simp <;> omega, _, hz9.at_ (t := 112) (cs := zC) (by simp), rfl⟩
  have hn0 : Kept w [(w.heap.size + 1 + 1, 112, (cA ct cv)), (w.heap.size + 1, 80, (tA t0 t1 t2 t3 t4 t5 t6 true)), (w.heap.size, 26, (pA key A l.length cap))] _ := hz9.sub (by intro y hy; simp at hy ⊢; rcases hy with rfl | rfl | rfl <;> simp)
  refine wp_region_free [false, false, true, true, false] (ShV []) (fun D _ u => ResC w [(w.heap.size + 1 + 1, 112, (cA ct cv)), (w.heap.size + 1, 80, (tA t0 t1 t2 t3 t4 t5 t6 true)), (w.heap.size, 26, (pA key A l.length cap))] [(2, w.heap.size + 1 + 1 + 1, 80, (tA t0 t1 t2 t3 t4 t5 t6 true)), (3, w.heap.size + 1 + 1 + 1 + 1, 112, (cA ct cv))] D u) (by kernel_rfl) (by kernel_rfl) (fun γ => by kernel_rfl) (fun D γ γ' w _ h => h) (ShV.inh _) (fun γ => ResC.start hn0 hst) (fun γ hγ => ?_)
  clear hst hn0
  have g2 : γ 2 = undef := hγ 2 rfl
  have g3 : γ 3 = undef := hγ 3 rfl
  clear hz9 kc0 kf0 kc1 kf1 kc2 kf2 kc3 kf3 kc4 kf4
  apply Exists.intro
  refine ⟨fun D => ?_, ?_, ?_⟩
  · simp only [hushL, cond_true, cond_false, Nat.reduceAdd, g2, g3]
    iterate 5 (first
      | go_big_quiet_skip
      | (go_big_quiet_want
         go_big_quiet_op
         first
           | go_big_quiet_on
           | (apply Exists.intro
              refine ⟨fun u hu => ?_, ?_⟩
              · first
                  | with_reducible rfl
                  | (obtain ⟨kc0, kf0, kc1, kf1, kc2, kf2, -⟩ := hu.1.rd; go_simp; first | done | with_reducible rfl)
              go_big_quiet_on)))
    exact wpQuiet_nil rfl
  · simp only [freeOk, Nat.reduceAdd]
    refine ⟨fun D u hD hd hu => ?_, fun D u hD hd hu => ?_, trivial⟩
    · obtain ⟨z, hz, hzs⟩ := hu.at_ (k := 2) (p := w.heap.size + 1 + 1 + 1) (t := 80) (V := (tA t0 t1 t2 t3 t4 t5 t6 true)) (by simp)
      exact steps_store hz rfl rfl rfl (by kernel_rfl) hzs (by simp [Value.oneCell']) (fun w' hc hg => ⟨rfl, hu.stored (by simp) (by simp) hg hc⟩)
    · obtain ⟨z, hz, hzs⟩ := hu.at_ (k := 3) (p := w.heap.size + 1 + 1 + 1 + 1) (t := 112) (V := (cA ct cv)) (by simp)
      exact steps_store hz rfl rfl rfl (by kernel_rfl) hzs (by simp [Value.oneCell']) (fun w' hc hg => ⟨rfl, hu.stored (by simp) (by simp) hg hc⟩)
  · intro D uf hD hu
    have hf := hu.done (by intro y hy; simp only [List.mem_cons, List.not_mem_nil, or_false] at hy; rcases hy with rfl | rfl; exact hD 2 (by simp) rfl; exact hD 3 (by simp) rfl)
    clear hu hD
    obtain ⟨kc0, kf0, kc1, kf1, kc2, kf2, kc3, kf3, kc4, kf4, -⟩ := hf.rd
    go_wp2_with fail
    exact bodyPost_ret (v := (.tuple #[.agg (tA t0 t1 t2 t3 t4 t5 t6 true), .agg (cA ct cv), .int .i64 2])) (by simp [results, Tryz.results105, go_sem, kc0, kc1]) rfl ⟨rfl, hf.1⟩
set_option maxRecDepth 20000 in
set_option maxHeartbeats 4000000 in
theorem specScanned_spent (key x ct cv : Int) (A : Option Addr) (l : List Int) (cap : Nat) (t0 t1 t2 t3 t4 t5 t6 : Int) (w : World) (hn : l.length ≤ maxLen) (hcap : l.length ≤ cap) (hA : Ints w .i64 w.heap.size A l) (ht : trustOk key l x ⟨t0, t1, t2, t3, t4, t5, t6, false⟩) (hc : isCell ct cv) (hs : 100000 ≤ t0 ∨ 1000 ≤ t1) :
    Calls Tryz.prog 105 #[.agg (pA key A l.length cap), .int .i64 x, .agg (tA t0 t1 t2 t3 t4 t5 t6 false), .agg (cA ct cv)] w fun e w' => e = .returned (.tuple #[.agg (tA t0 t1 t2 t3 t4 t5 t6 false), .agg (cA ct cv), .int .i64 3]) ∧ Below w.heap.size w w' := by
  have K0 := Lib.hid (show Kept w [(w.heap.size + 1 + 1 + 1 + 1, 112, zC), (w.heap.size + 1 + 1 + 1, 80, zT), (w.heap.size + 1 + 1, 112, (cA ct cv)), (w.heap.size + 1, 80, (tA t0 t1 t2 t3 t4 t5 t6 false)), (w.heap.size, 26, (pA key A l.length cap))] _ from ((((((Kept.refl w).put1 _ _ (pA key A l.length cap) rfl).put1 _ _ (tA t0 t1 t2 t3 t4 t5 t6 false) (by simp)).put1 _ _ (cA ct cv) (by simp)).put1 _ _ zT (by simp)).put1 _ _ zC (by simp)))
  have FI := Lib.hid (fun (u : World) (hb : Below w.heap.size w u) => specFirst_calls key x A l cap u hn hcap ((hA.below hb (Nat.le_refl _)).more hb.size))
  have TO := Lib.hid (fun (u : World) (hb : Below w.heap.size w u) => specTrustOk_calls key x A l cap t0 t1 t2 t3 t4 t5 t6 false u hn ((hA.below hb (Nat.le_refl _)).more hb.size))
  have CO := Lib.hid (fun (u : World) => specCellOk_calls ct cv u)
  have hf : 0 ≤ firstOf key l x ∧ firstOf key l x ≤ 32 := by
    obtain ⟨r, hr⟩ : ∃ r : Nat, x = r := ⟨x.toNat, by have := ht.2.1; omega⟩
    have hl : r < l.length := by have := ht.2.1; omega
    rw [hr, firstOf_yes ht.1 hl]
    have h1 := upTo_bd ht.1.2.2.1 (show r ≤ l.length by omega)
    have h2 := ht.1.2.1.2
    omega
  have hd : decide (firstOf key l x < 0) = false := decide_eq_false (by omega)
  rw [trustB_yes ht] at TO
  rw [decide_eq_true hc] at CO
  clear ht hc hf hA hn
  generalize firstOf key l x = f at FI hd
  by_cases h0 : 100000 ≤ t0
  · have b0 : decide (100000 ≤ t0) = true := decide_eq_true h0
    go_enter Tryz.func105, Tryz.ntmps105
    go_wp2_with fail
    refine (FI.out _ K0.out.1).mono ?_; rintro e uz1 ⟨rfl, bz2⟩
    have hz3 := K0.out.below bz2
    clear bz2
    obtain ⟨kc0, kf0, kc1, kf1, kc2, kf2, kc3, kf3, kc4, kf4, -⟩ := hz3.rd
    go_wp2_with fail
    refine (TO.out _ hz3.1).mono ?_; rintro e uz4 ⟨rfl, bz5⟩
    have hz6 := hz3.below bz5
    clear bz5 hz3 kc0 kf0 kc1 kf1 kc2 kf2 kc3 kf3 kc4 kf4
    obtain ⟨kc0, kf0, kc1, kf1, kc2, kf2, kc3, kf3, kc4, kf4, -⟩ := hz6.rd
    go_wp2_with fail
    refine (CO.out _).mono ?_; rintro e uz7 ⟨rfl, bz8⟩
    have hz9 := hz6.below bz8
    clear bz8 hz6 kc0 kf0 kc1 kf1 kc2 kf2 kc3 kf3 kc4 kf4
    obtain ⟨kc0, kf0, kc1, kf1, kc2, kf2, kc3, kf3, kc4, kf4, -⟩ := hz9.rd
    go_upto_region 7 with fail
    have hst : ∀ x ∈ ([(2, w.heap.size + 1 + 1 + 1, 80, (tA t0 t1 t2 t3 t4 t5 t6 false)), (3, w.heap.size + 1 + 1 + 1 + 1, 112, (cA ct cv))] : List Res), w.heap.size ≤ x.2.1 ∧ (∀ y ∈ ([(w.heap.size + 1 + 1, 112, (cA ct cv)), (w.heap.size + 1, 80, (tA t0 t1 t2 t3 t4 t5 t6 false)), (w.heap.size, 26, (pA key A l.length cap))] : List Box), y.1 ≠ x.2.1) ∧ ∃ z, CellsAt uz7 x.2.1 x.2.2.1 z ∧ z.size = x.2.2.2.size := by
      intro y hy
      simp only [List.mem_cons, List.not_mem_nil, or_false] at hy
      rcases hy with rfl | rfl
      · exact ⟨by simp only [] <;> omega, by intro y hy; simp at hy; rcases hy with rfl | rfl | rfl <;> simp <;> omega, _, hz9.at_ (t := 80) (cs := zT) (by simp), rfl⟩
      · exact ⟨by simp only [] <;> omega, by intro y hy; simp at hy; rcases hy with rfl | rfl | rfl <;> simp <;> omega, _, hz9.at_ (t := 112) (cs := zC) (by simp), rfl⟩
    have hn0 : Kept w [(w.heap.size + 1 + 1, 112, (cA ct cv)), (w.heap.size + 1, 80, (tA t0 t1 t2 t3 t4 t5 t6 false)), (w.heap.size, 26, (pA key A l.length cap))] _ := hz9.sub (by intro y hy; simp at hy ⊢; rcases hy with rfl | rfl | rfl <;> simp)
    refine wp_region_free [false, false, true, true, false] (ShV []) (fun D _ u => ResC w [(w.heap.size + 1 + 1, 112, (cA ct cv)), (w.heap.size + 1, 80, (tA t0 t1 t2 t3 t4 t5 t6 false)), (w.heap.size, 26, (pA key A l.length cap))] [(2, w.heap.size + 1 + 1 + 1, 80, (tA t0 t1 t2 t3 t4 t5 t6 false)), (3, w.heap.size + 1 + 1 + 1 + 1, 112, (cA ct cv))] D u) (by kernel_rfl) (by kernel_rfl) (fun γ => by kernel_rfl) (fun D γ γ' w _ h => h) (ShV.inh _) (fun γ => ResC.start hn0 hst) (fun γ hγ => ?_)
    clear hst hn0
    have g2 : γ 2 = undef := hγ 2 rfl
    have g3 : γ 3 = undef := hγ 3 rfl
    clear hz9 kc0 kf0 kc1 kf1 kc2 kf2 kc3 kf3 kc4 kf4
    apply Exists.intro
    refine ⟨fun D => ?_, ?_, ?_⟩
    · simp only [hushL, cond_true, cond_false, Nat.reduceAdd, g2, g3]
      iterate 5 (first
        | go_big_quiet_skip
        | (go_big_quiet_want
           go_big_quiet_op
           first
             | go_big_quiet_on
             | (apply Exists.intro
                refine ⟨fun u hu => ?_, ?_⟩
                · first
                    | with_reducible rfl
                    | (obtain ⟨kc0, kf0, kc1, kf1, kc2, kf2, -⟩ := hu.1.rd; go_simp; first | done | with_reducible rfl)
                go_big_quiet_on)))
      exact wpQuiet_nil rfl
    · simp only [freeOk, Nat.reduceAdd]
      refine ⟨fun D u hD hd hu => ?_, fun D u hD hd hu => ?_, trivial⟩
      · obtain ⟨z, hz, hzs⟩ := hu.at_ (k := 2) (p := w.heap.size + 1 + 1 + 1) (t := 80) (V := (tA t0 t1 t2 t3 t4 t5 t6 false)) (by simp)
        exact steps_store hz rfl rfl rfl (by kernel_rfl) hzs (by simp [Value.oneCell']) (fun w' hc hg => ⟨rfl, hu.stored (by simp) (by simp) hg hc⟩)
      · obtain ⟨z, hz, hzs⟩ := hu.at_ (k := 3) (p := w.heap.size + 1 + 1 + 1 + 1) (t := 112) (V := (cA ct cv)) (by simp)
        exact steps_store hz rfl rfl rfl (by kernel_rfl) hzs (by simp [Value.oneCell']) (fun w' hc hg => ⟨rfl, hu.stored (by simp) (by simp) hg hc⟩)
    · intro D uf hD hu
      have hf := hu.done (by intro y hy; simp only [List.mem_cons, List.not_mem_nil, or_false] at hy; rcases hy with rfl | rfl; exact hD 2 (by simp) rfl; exact hD 3 (by simp) rfl)
      clear hu hD
      obtain ⟨kc0, kf0, kc1, kf1, kc2, kf2, kc3, kf3, kc4, kf4, -⟩ := hf.rd
      go_wp2_with fail
      exact bodyPost_ret (v := (.tuple #[.agg (tA t0 t1 t2 t3 t4 t5 t6 false), .agg (cA ct cv), .int .i64 3])) (by simp [results, Tryz.results105, go_sem, kc0, kc1]) rfl ⟨rfl, hf.1⟩
  · have b0 : decide (100000 ≤ t0) = false := decide_eq_false h0
    have b1 : decide (1000 ≤ t1) = true := decide_eq_true (by omega)
    go_enter Tryz.func105, Tryz.ntmps105
    go_wp2_with fail
    refine (FI.out _ K0.out.1).mono ?_; rintro e uz1 ⟨rfl, bz2⟩
    have hz3 := K0.out.below bz2
    clear bz2
    obtain ⟨kc0, kf0, kc1, kf1, kc2, kf2, kc3, kf3, kc4, kf4, -⟩ := hz3.rd
    go_wp2_with fail
    refine (TO.out _ hz3.1).mono ?_; rintro e uz4 ⟨rfl, bz5⟩
    have hz6 := hz3.below bz5
    clear bz5 hz3 kc0 kf0 kc1 kf1 kc2 kf2 kc3 kf3 kc4 kf4
    obtain ⟨kc0, kf0, kc1, kf1, kc2, kf2, kc3, kf3, kc4, kf4, -⟩ := hz6.rd
    go_wp2_with fail
    refine (CO.out _).mono ?_; rintro e uz7 ⟨rfl, bz8⟩
    have hz9 := hz6.below bz8
    clear bz8 hz6 kc0 kf0 kc1 kf1 kc2 kf2 kc3 kf3 kc4 kf4
    obtain ⟨kc0, kf0, kc1, kf1, kc2, kf2, kc3, kf3, kc4, kf4, -⟩ := hz9.rd
    go_upto_region 7 with fail
    have hst : ∀ x ∈ ([(2, w.heap.size + 1 + 1 + 1, 80, (tA t0 t1 t2 t3 t4 t5 t6 false)), (3, w.heap.size + 1 + 1 + 1 + 1, 112, (cA ct cv))] : List Res), w.heap.size ≤ x.2.1 ∧ (∀ y ∈ ([(w.heap.size + 1 + 1, 112, (cA ct cv)), (w.heap.size + 1, 80, (tA t0 t1 t2 t3 t4 t5 t6 false)), (w.heap.size, 26, (pA key A l.length cap))] : List Box), y.1 ≠ x.2.1) ∧ ∃ z, CellsAt uz7 x.2.1 x.2.2.1 z ∧ z.size = x.2.2.2.size := by
      intro y hy
      simp only [List.mem_cons, List.not_mem_nil, or_false] at hy
      rcases hy with rfl | rfl
      · exact ⟨by simp only [] <;> omega, by intro y hy; simp at hy; rcases hy with rfl | rfl | rfl <;> simp <;> omega, _, hz9.at_ (t := 80) (cs := zT) (by simp), rfl⟩
      · exact ⟨by simp only [] <;> omega, by intro y hy; simp at hy; rcases hy with rfl | rfl | rfl <;> simp <;> omega, _, hz9.at_ (t := 112) (cs := zC) (by simp), rfl⟩
    have hn0 : Kept w [(w.heap.size + 1 + 1, 112, (cA ct cv)), (w.heap.size + 1, 80, (tA t0 t1 t2 t3 t4 t5 t6 false)), (w.heap.size, 26, (pA key A l.length cap))] _ := hz9.sub (by intro y hy; simp at hy ⊢; rcases hy with rfl | rfl | rfl <;> simp)
    refine wp_region_free [false, false, true, true, false] (ShV []) (fun D _ u => ResC w [(w.heap.size + 1 + 1, 112, (cA ct cv)), (w.heap.size + 1, 80, (tA t0 t1 t2 t3 t4 t5 t6 false)), (w.heap.size, 26, (pA key A l.length cap))] [(2, w.heap.size + 1 + 1 + 1, 80, (tA t0 t1 t2 t3 t4 t5 t6 false)), (3, w.heap.size + 1 + 1 + 1 + 1, 112, (cA ct cv))] D u) (by kernel_rfl) (by kernel_rfl) (fun γ => by kernel_rfl) (fun D γ γ' w _ h => h) (ShV.inh _) (fun γ => ResC.start hn0 hst) (fun γ hγ => ?_)
    clear hst hn0
    have g2 : γ 2 = undef := hγ 2 rfl
    have g3 : γ 3 = undef := hγ 3 rfl
    clear hz9 kc0 kf0 kc1 kf1 kc2 kf2 kc3 kf3 kc4 kf4
    apply Exists.intro
    refine ⟨fun D => ?_, ?_, ?_⟩
    · simp only [hushL, cond_true, cond_false, Nat.reduceAdd, g2, g3]
      iterate 5 (first
        | go_big_quiet_skip
        | (go_big_quiet_want
           go_big_quiet_op
           first
             | go_big_quiet_on
             | (apply Exists.intro
                refine ⟨fun u hu => ?_, ?_⟩
                · first
                    | with_reducible rfl
                    | (obtain ⟨kc0, kf0, kc1, kf1, kc2, kf2, -⟩ := hu.1.rd; go_simp; first | done | with_reducible rfl)
                go_big_quiet_on)))
      exact wpQuiet_nil rfl
    · simp only [freeOk, Nat.reduceAdd]
      refine ⟨fun D u hD hd hu => ?_, fun D u hD hd hu => ?_, trivial⟩
      · obtain ⟨z, hz, hzs⟩ := hu.at_ (k := 2) (p := w.heap.size + 1 + 1 + 1) (t := 80) (V := (tA t0 t1 t2 t3 t4 t5 t6 false)) (by simp)
        exact steps_store hz rfl rfl rfl (by kernel_rfl) hzs (by simp [Value.oneCell']) (fun w' hc hg => ⟨rfl, hu.stored (by simp) (by simp) hg hc⟩)
      · obtain ⟨z, hz, hzs⟩ := hu.at_ (k := 3) (p := w.heap.size + 1 + 1 + 1 + 1) (t := 112) (V := (cA ct cv)) (by simp)
        exact steps_store hz rfl rfl rfl (by kernel_rfl) hzs (by simp [Value.oneCell']) (fun w' hc hg => ⟨rfl, hu.stored (by simp) (by simp) hg hc⟩)
    · intro D uf hD hu
      have hf := hu.done (by intro y hy; simp only [List.mem_cons, List.not_mem_nil, or_false] at hy; rcases hy with rfl | rfl; exact hD 2 (by simp) rfl; exact hD 3 (by simp) rfl)
      clear hu hD
      obtain ⟨kc0, kf0, kc1, kf1, kc2, kf2, kc3, kf3, kc4, kf4, -⟩ := hf.rd
      go_wp2_with fail
      exact bodyPost_ret (v := (.tuple #[.agg (tA t0 t1 t2 t3 t4 t5 t6 false), .agg (cA ct cv), .int .i64 3])) (by simp [results, Tryz.results105, go_sem, kc0, kc1]) rfl ⟨rfl, hf.1⟩
set_option maxRecDepth 20000 in
set_option maxHeartbeats 4000000 in
theorem specScanned_caught (key x ct cv : Int) (A : Option Addr) (l : List Int) (cap : Nat) (t0 t1 t2 t3 t4 t5 t6 : Int) (w : World) (hn : l.length ≤ maxLen) (hcap : l.length ≤ cap) (hA : Ints w .i64 w.heap.size A l) (ht : trustOk key l x ⟨t0, t1, t2, t3, t4, t5, t6, false⟩) (hc : isCell ct cv) (h0 : ¬ 100000 ≤ t0) (h1 : ¬ 1000 ≤ t1) (hct : t0 < ct) :
    Calls Tryz.prog 105 #[.agg (pA key A l.length cap), .int .i64 x, .agg (tA t0 t1 t2 t3 t4 t5 t6 false), .agg (cA ct cv)] w fun e w' => e = .returned (.tuple #[.agg (tA t0 t1 t2 t3 t4 t5 t6 true), .agg (cA ct cv), .int .i64 4]) ∧ Below w.heap.size w w' := by
  have K0 := Lib.hid (show Kept w [(w.heap.size + 1 + 1 + 1 + 1, 112, zC), (w.heap.size + 1 + 1 + 1, 80, zT), (w.heap.size + 1 + 1, 112, (cA ct cv)), (w.heap.size + 1, 80, (tA t0 t1 t2 t3 t4 t5 t6 false)), (w.heap.size, 26, (pA key A l.length cap))] _ from ((((((Kept.refl w).put1 _ _ (pA key A l.length cap) rfl).put1 _ _ (tA t0 t1 t2 t3 t4 t5 t6 false) (by simp)).put1 _ _ (cA ct cv) (by simp)).put1 _ _ zT (by simp)).put1 _ _ zC (by simp)))
  have FI := Lib.hid (fun (u : World) (hb : Below w.heap.size w u) => specFirst_calls key x A l cap u hn hcap ((hA.below hb (Nat.le_refl _)).more hb.size))
  have TO := Lib.hid (fun (u : World) (hb : Below w.heap.size w u) => specTrustOk_calls key x A l cap t0 t1 t2 t3 t4 t5 t6 false u hn ((hA.below hb (Nat.le_refl _)).more hb.size))
  have CO := Lib.hid (fun (u : World) => specCellOk_calls ct cv u)
  have hf : 0 ≤ firstOf key l x ∧ firstOf key l x ≤ 32 := by
    obtain ⟨r, hr⟩ : ∃ r : Nat, x = r := ⟨x.toNat, by have := ht.2.1; omega⟩
    have hl : r < l.length := by have := ht.2.1; omega
    rw [hr, firstOf_yes ht.1 hl]
    have h1 := upTo_bd ht.1.2.2.1 (show r ≤ l.length by omega)
    have h2 := ht.1.2.1.2
    omega
  have hd : decide (firstOf key l x < 0) = false := decide_eq_false (by omega)
  rw [trustB_yes ht] at TO
  rw [decide_eq_true hc] at CO
  clear ht hc hf hA hn
  generalize firstOf key l x = f at FI hd
  have b0 : decide (100000 ≤ t0) = false := decide_eq_false h0
  have b1 : decide (1000 ≤ t1) = false := decide_eq_false h1
  go_enter Tryz.func105, Tryz.ntmps105
  go_wp2_with fail
  refine (FI.out _ K0.out.1).mono ?_; rintro e uz1 ⟨rfl, bz2⟩
  have hz3 := K0.out.below bz2
  clear bz2
  obtain ⟨kc0, kf0, kc1, kf1, kc2, kf2, kc3, kf3, kc4, kf4, -⟩ := hz3.rd
  go_wp2_with fail
  refine (TO.out _ hz3.1).mono ?_; rintro e uz4 ⟨rfl, bz5⟩
  have hz6 := hz3.below bz5
  clear bz5 hz3 kc0 kf0 kc1 kf1 kc2 kf2 kc3 kf3 kc4 kf4
  obtain ⟨kc0, kf0, kc1, kf1, kc2, kf2, kc3, kf3, kc4, kf4, -⟩ := hz6.rd
  go_wp2_with fail
  refine (CO.out _).mono ?_; rintro e uz7 ⟨rfl, bz8⟩
  have hz9 := hz6.below bz8
  clear bz8 hz6 kc0 kf0 kc1 kf1 kc2 kf2 kc3 kf3 kc4 kf4
  obtain ⟨kc0, kf0, kc1, kf1, kc2, kf2, kc3, kf3, kc4, kf4, -⟩ := hz9.rd
  go_upto_region 10 with fail
  have hz10 : Kept w [(w.heap.size + 1 + 1 + 1 + 1, 112, zC), (w.heap.size + 1 + 1 + 1, 80, zT), (w.heap.size + 1 + 1, 112, (cA ct cv)), (w.heap.size + 1, 80, (tA t0 t1 t2 t3 t4 t5 t6 true)), (w.heap.size, 26, (pA key A l.length cap))] _ := hz9.put (k := 3) rfl (by unfold Apart; simp <;> omega) (gb_set (gb_refl _ (some (w.heap.size + 1))) 7 (.bool true)) ((hz9.at_ (p := w.heap.size + 1) (t := 80) (cs := (tA t0 t1 t2 t3 t4 t5 t6 false)) (by simp)).set_ 7 _)
  clear hz9 kc0 kf0 kc1 kf1 kc2 kf2 kc3 kf3 kc4 kf4
  generalize World.setCell _ _ _ = wq at hz10 ⊢
  obtain ⟨kc0, kf0, kc1, kf1, kc2, kf2, kc3, kf3, kc4, kf4, -⟩ := hz10.rd
  have hst : ∀ x ∈ ([(2, w.heap.size + 1 + 1 + 1, 80, (tA t0 t1 t2 t3 t4 t5 t6 true)), (3, w.heap.size + 1 + 1 + 1 + 1, 112, (cA ct cv))] : List Res), w.heap.size ≤ x.2.1 ∧ (∀ y ∈ ([(w.heap.size + 1 + 1, 112, (cA ct cv)), (w.heap.size + 1, 80, (tA t0 t1 t2 t3 t4 t5 t6 true)), (w.heap.size, 26, (pA key A l.length cap))] : List Box), y.1 ≠ x.2.1) ∧ ∃ z, CellsAt wq x.2.1 x.2.2.1 z ∧ z.size = x.2.2.2.size := by
    intro y hy
    simp only [List.mem_cons, List.not_mem_nil, or_false] at hy
    rcases hy with rfl | rfl
    · exact ⟨by simp only [] <;> omega, by intro y hy; simp at hy; rcases hy with rfl | rfl | rfl <;> simp <;> omega, _, hz10.at_ (t := 80) (cs := zT) (by simp), rfl⟩
    · exact ⟨by simp only [] <;> omega, by intro y hy; simp at hy; rcases hy with rfl | rfl | rfl <;> simp <;> omega, _, hz10.at_ (t := 112) (cs := zC) (by simp), rfl⟩
  have hn0 : Kept w [(w.heap.size + 1 + 1, 112, (cA ct cv)), (w.heap.size + 1, 80, (tA t0 t1 t2 t3 t4 t5 t6 true)), (w.heap.size, 26, (pA key A l.length cap))] _ := hz10.sub (by intro y hy; simp at hy ⊢; rcases hy with rfl | rfl | rfl <;> simp)
  refine wp_region_free [false, false, true, true, false] (ShV []) (fun D _ u => ResC w [(w.heap.size + 1 + 1, 112, (cA ct cv)), (w.heap.size + 1, 80, (tA t0 t1 t2 t3 t4 t5 t6 true)), (w.heap.size, 26, (pA key A l.length cap))] [(2, w.heap.size + 1 + 1 + 1, 80, (tA t0 t1 t2 t3 t4 t5 t6 true)), (3, w.heap.size + 1 + 1 + 1 + 1, 112, (cA ct cv))] D u) (by kernel_rfl) (by kernel_rfl) (fun γ => by kernel_rfl) (fun D γ γ' w _ h => h) (ShV.inh _) (fun γ => ResC.start hn0 hst) (fun γ hγ => ?_)
  clear hst hn0
  have g2 : γ 2 = undef := hγ 2 rfl
  have g3 : γ 3 = undef := hγ 3 rfl
  clear hz10 kc0 kf0 kc1 kf1 kc2 kf2 kc3 kf3 kc4 kf4
  apply Exists.intro
  refine ⟨fun D => ?_, ?_, ?_⟩
  · simp only [hushL, cond_true, cond_false, Nat.reduceAdd, g2, g3]
    iterate 5 (first
      | go_big_quiet_skip
      | (go_big_quiet_want
         go_big_quiet_op
         first
           | go_big_quiet_on
           | (apply Exists.intro
              refine ⟨fun u hu => ?_, ?_⟩
              · first
                  | with_reducible rfl
                  | (obtain ⟨kc0, kf0, kc1, kf1, kc2, kf2, -⟩ := hu.1.rd; go_simp; first | done | with_reducible rfl)
              go_big_quiet_on)))
    exact wpQuiet_nil rfl
  · simp only [freeOk, Nat.reduceAdd]
    refine ⟨fun D u hD hd hu => ?_, fun D u hD hd hu => ?_, trivial⟩
    · obtain ⟨z, hz, hzs⟩ := hu.at_ (k := 2) (p := w.heap.size + 1 + 1 + 1) (t := 80) (V := (tA t0 t1 t2 t3 t4 t5 t6 true)) (by simp)
      exact steps_store hz rfl rfl rfl (by kernel_rfl) hzs (by simp [Value.oneCell']) (fun w' hc hg => ⟨rfl, hu.stored (by simp) (by simp) hg hc⟩)
    · obtain ⟨z, hz, hzs⟩ := hu.at_ (k := 3) (p := w.heap.size + 1 + 1 + 1 + 1) (t := 112) (V := (cA ct cv)) (by simp)
      exact steps_store hz rfl rfl rfl (by kernel_rfl) hzs (by simp [Value.oneCell']) (fun w' hc hg => ⟨rfl, hu.stored (by simp) (by simp) hg hc⟩)
  · intro D uf hD hu
    have hf := hu.done (by intro y hy; simp only [List.mem_cons, List.not_mem_nil, or_false] at hy; rcases hy with rfl | rfl; exact hD 2 (by simp) rfl; exact hD 3 (by simp) rfl)
    clear hu hD
    obtain ⟨kc0, kf0, kc1, kf1, kc2, kf2, kc3, kf3, kc4, kf4, -⟩ := hf.rd
    go_wp2_with fail
    exact bodyPost_ret (v := (.tuple #[.agg (tA t0 t1 t2 t3 t4 t5 t6 true), .agg (cA ct cv), .int .i64 4])) (by simp [results, Tryz.results105, go_sem, kc0, kc1]) rfl ⟨rfl, hf.1⟩
def VolN.Fit (x : VolN) : Prop := x.trusts.length = x.counts.length ∧ (x.cells.length : Int) = upTo x.counts x.counts.length
theorem vol_end {w w1 : World} {r : Nat} {t : TypeId} {x0 x1 x2 x3 x4 x5 y0 y1 y2 y3 y4 y5 : Value} (hk : CellsAt w1 r t #[y0, y1, y2, y3, y4, y5]) (hb : Below w.heap.size w w1) (hr : w.heap.size ≤ r) :
    ∃ w4, ((((((w1.setCell ⟨r, 0, none⟩ x0).setCell ⟨r, 1, none⟩ x1).setCell ⟨r, 2, none⟩ x2).setCell ⟨r, 3, none⟩ x3).setCell ⟨r, 4, none⟩ x4).setCell ⟨r, 5, none⟩ x5) = w4 ∧ (w4.cell? ⟨r, 0, none⟩ = some x0 ∧ w4.cell? ⟨r, 1, none⟩ = some x1 ∧ w4.cell? ⟨r, 2, none⟩ = some x2 ∧ w4.cell? ⟨r, 3, none⟩ = some x3 ∧ w4.cell? ⟨r, 4, none⟩ = some x4 ∧ w4.cell? ⟨r, 5, none⟩ = some x5) ∧ Below w.heap.size w w4 ∧ w1.grownBy w4 (some r) := by
  have h := (((((hk.set_ 0 x0).set_ 1 x1).set_ 2 x2).set_ 3 x3).set_ 4 x4).set_ 5 x5
  simp only [List.setIfInBounds_toArray, List.set_cons_zero, List.set_cons_succ] at h
  have hb2 := (((((hb.setCell (p := ⟨r, 0, none⟩) hr x0).setCell (p := ⟨r, 1, none⟩) hr x1).setCell (p := ⟨r, 2, none⟩) hr x2).setCell (p := ⟨r, 3, none⟩) hr x3).setCell (p := ⟨r, 4, none⟩) hr x4).setCell (p := ⟨r, 5, none⟩) hr x5
  have hg := gb_set (gb_set (gb_set (gb_set (gb_set (gb_set (gb_refl w1 (some r)) 0 x0) 1 x1) 2 x2) 3 x3) 4 x4) 5 x5
  generalize World.setCell _ _ _ = w4 at h hb2 hg ⊢
  exact ⟨w4, rfl, ⟨h.cell 0, h.cell 1, h.cell 2, h.cell 3, h.cell 4, h.cell 5⟩, hb2, hg⟩
theorem row_frozen {w : World} {base e size n c g : Nat} {xs : List Value} (h : w.ownsRow base e size (.slice (some ⟨g, 0, none⟩) n c) n xs) : ∀ k, w.frozen? ⟨g, k, none⟩ = false := by
  rcases h.2 with ⟨h0, _⟩ | ⟨g', cap, cur, e1, hb, hg, _⟩
  · cases h0
  · simp only [Value.slice.injEq, Option.some.injEq, Addr.mk.injEq, and_true, true_and] at e1
    obtain ⟨rfl, rfl⟩ := e1
    intro k
    exact (show CellsAt w g e cur from hg).frozen k
theorem TrRow.here {w : World} {base c g k : Nat} {L : List Tru} (h : TrRow w base (.slice (some ⟨g, 0, none⟩) L.length c) L) (hk : k < L.length) : TruAt w g (k * 8) (L.getD k default) := by
  obtain ⟨B, d, e, hT, _⟩ := h.reads truV_len
  obtain ⟨b, off, e2, _, h2⟩ := Trs.at_ hT hk
  simp only [Value.slice.injEq, true_and] at e
  rw [← e.1] at e2
  simp only [Option.some.injEq, Addr.mk.injEq, and_true] at e2
  obtain ⟨rfl, rfl⟩ := e2
  rwa [Nat.zero_add] at h2
theorem ClRow.here {w : World} {base c g k : Nat} {L : List Ce} (h : ClRow w base (.slice (some ⟨g, 0, none⟩) L.length c) L) (hk : k < L.length) : CelAt w g (k * 2) (L.getD k default) := by
  obtain ⟨B, d, e, hT, _⟩ := h.reads ceV_len
  obtain ⟨b, off, e2, _, h2⟩ := Cls.at_ hT hk
  simp only [Value.slice.injEq, true_and] at e
  rw [← e.1] at e2
  simp only [Option.some.injEq, Addr.mk.injEq, and_true] at e2
  obtain ⟨rfl, rfl⟩ := e2
  rwa [Nat.zero_add] at h2
theorem VolO.trustsGet {u : World} {base : Nat} {x : VolN} {A B C : Option Addr} {c d e b o sc n0 n1 n2 : Nat} (h : VolO u base x (.agg #[.int .i64 x.key, .slice A n0 c, .slice B n1 d, .slice C n2 e, .slice (some ⟨b, o, none⟩) 2 sc, .int .i64 x.count])) (hk : 0 < x.trusts.length) :
    ∃ g, B = some ⟨g, 0, none⟩ ∧ base ≤ g ∧ g < u.heap.size ∧ TrRow u base (.slice (some ⟨g, 0, none⟩) x.trusts.length d) x.trusts ∧
      ∀ (u' : World) (L' : List Tru), L'.length = x.trusts.length → u.grownBy u' (some g) → TrRow u' base (.slice (some ⟨g, 0, none⟩) L'.length d) L' → VolO u' base { x with trusts := L' } (.agg #[.int .i64 x.key, .slice A n0 c, .slice B n1 d, .slice C n2 e, .slice (some ⟨b, o, none⟩) 2 sc, .int .i64 x.count]) := by
  obtain ⟨A2, c2, B2, d2, C2, e2, b2, sc2, g, hv, hB, h1, h2, h3, h4⟩ := h.trustsAt hk
  have hd : d = d2 := by injection hv with hv; injection hv with hv; injection hv with _ hv; injection hv with _ hv; injection hv with hv1 hv; injection hv1
  have hB2 : B = B2 := by injection hv with hv; injection hv with hv; injection hv with _ hv; injection hv with _ hv; injection hv with hv1 hv; injection hv1
  subst hd
  exact ⟨g, hB2.trans hB, h1, h2, h3, h4⟩
theorem VolO.cellsGet {u : World} {base : Nat} {x : VolN} {A B C : Option Addr} {c d e b o sc n0 n1 n2 : Nat} (h : VolO u base x (.agg #[.int .i64 x.key, .slice A n0 c, .slice B n1 d, .slice C n2 e, .slice (some ⟨b, o, none⟩) 2 sc, .int .i64 x.count])) (hk : 0 < x.cells.length) :
    ∃ g, C = some ⟨g, 0, none⟩ ∧ base ≤ g ∧ g < u.heap.size ∧ ClRow u base (.slice (some ⟨g, 0, none⟩) x.cells.length e) x.cells ∧
      ∀ (u' : World) (L' : List Ce), L'.length = x.cells.length → u.grownBy u' (some g) → ClRow u' base (.slice (some ⟨g, 0, none⟩) L'.length e) L' → VolO u' base { x with cells := L' } (.agg #[.int .i64 x.key, .slice A n0 c, .slice B n1 d, .slice C n2 e, .slice (some ⟨b, o, none⟩) 2 sc, .int .i64 x.count]) := by
  obtain ⟨A2, c2, B2, d2, C2, e2, b2, sc2, g, hv, hB, h1, h2, h3, h4⟩ := h.cellsAt hk
  have hd : e = e2 := by injection hv with hv; injection hv with hv; injection hv with _ hv; injection hv with _ hv; injection hv with _ hv; injection hv with hv1 hv; injection hv1
  have hB2 : C = C2 := by injection hv with hv; injection hv with hv; injection hv with _ hv; injection hv with _ hv; injection hv with _ hv; injection hv with hv1 hv; injection hv1
  subst hd
  exact ⟨g, hB2.trans hB, h1, h2, h3, h4⟩
end Go.Proofs.YtgaecedhkbneaaaGreatDoor.Mx

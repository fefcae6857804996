import Derived.Test.YtodmponjjhokdaaGreatG16
import Derived.Test.YtodmponjjhokdaaGreatG18
namespace Go.Proofs.YtodmponjjhokdaaGreat.Mx
open Go.ChangeShapes Go.WideShapes Go.ChangeAt Go.RowKit
set_option linter.unusedVariables false
def verdictOf (t : Tru) : Tru × Int :=
 if t.read = t.written then (⟨t.clock, t.epoch + 1, 0, t.nread, t.nwritten, 0, 0, t.failed⟩, 5) else (⟨t.clock, t.epoch, 0, t.read, t.written, 0, 0, true⟩, 4)
def zeroTru : Tru := ⟨0, 0, 0, 0, 0, 0, 0, false⟩
def scanOk (key : Int) (l : List Int) (x : Int) (t : Tru) (ct cv : Int) : Prop := trustOk key l x t ∧ isCell ct cv
noncomputable def scanMid (key : Int) (l : List Int) (x : Int) (t : Tru) (ct cv : Int) : Tru :=
 ⟨t.clock + 1, t.epoch, t.cursor + 1, addOf t.read (tagOf key (tripleIn (firstOf key l x + t.cursor) ct cv).1 (tripleIn (firstOf key l x + t.cursor) ct cv).2.1 (tripleIn (firstOf key l x + t.cursor) ct cv).2.2), t.written, t.nread,
  addOf t.nwritten (tagOf key (tripleIn (firstOf key l x + t.cursor) (cellOf key (firstOf key l x + t.cursor) (t.clock + 1) (valueIn key (firstOf key l x + t.cursor) ct cv)).1 (cellOf key (firstOf key l x + t.cursor) (t.clock + 1) (valueIn key (firstOf key l x + t.cursor) ct cv)).2).1
   (tripleIn (firstOf key l x + t.cursor) (cellOf key (firstOf key l x + t.cursor) (t.clock + 1) (valueIn key (firstOf key l x + t.cursor) ct cv)).1 (cellOf key (firstOf key l x + t.cursor) (t.clock + 1) (valueIn key (firstOf key l x + t.cursor) ct cv)).2).2.1
   (tripleIn (firstOf key l x + t.cursor) (cellOf key (firstOf key l x + t.cursor) (t.clock + 1) (valueIn key (firstOf key l x + t.cursor) ct cv)).1 (cellOf key (firstOf key l x + t.cursor) (t.clock + 1) (valueIn key (firstOf key l x + t.cursor) ct cv)).2).2.2), t.failed⟩
theorem l9Verdict_calls (t0 t1 t2 t3 t4 t5 t6 : Int) (t7 : Bool) (w : World) (h1 : 0 ≤ t1) (h1' : t1 ≤ 1000) :
    Calls Tryz.prog 101 #[.agg #[.int .i64 t0, .int .i64 t1, .int .i64 t2, .int .i64 t3, .int .i64 t4, .int .i64 t5, .int .i64 t6, .bool t7]] w fun e w' => e = .returned (.tuple #[.agg #[.int .i64 (verdictOf ⟨t0, t1, t2, t3, t4, t5, t6, t7⟩).1.clock, .int .i64 (verdictOf ⟨t0, t1, t2, t3, t4, t5, t6, t7⟩).1.epoch, .int .i64 (verdictOf ⟨t0, t1, t2, t3, t4, t5, t6, t7⟩).1.cursor, .int .i64 (verdictOf ⟨t0, t1, t2, t3, t4, t5, t6, t7⟩).1.read, .int .i64 (verdictOf ⟨t0, t1, t2, t3, t4, t5, t6, t7⟩).1.written, .int .i64 (verdictOf ⟨t0, t1, t2, t3, t4, t5, t6, t7⟩).1.nread, .int .i64 (verdictOf ⟨t0, t1, t2, t3, t4, t5, t6, t7⟩).1.nwritten, .bool (verdictOf ⟨t0, t1, t2, t3, t4, t5, t6, t7⟩).1.failed], .int .i64 (verdictOf ⟨t0, t1, t2, t3, t4, t5, t6, t7⟩).2]) ∧ Below w.heap.size w w' := by
 by_cases h : t3 = t4
 ·have e : verdictOf ⟨t0, t1, t2, t3, t4, t5, t6, t7⟩ = (⟨t0, t1 + 1, 0, t5, t6, 0, 0, t7⟩, 5) := by unfold verdictOf; rw [if_pos h]
  rw [e]
  have hb : (t3 == t4) = true := by simpa using h
  clear h e
  go_enter Tryz.func101, Tryz.ntmps101
  go_wp2_with fail
  refine bodyPost_ret (v := .tuple #[.agg #[.int .i64 t0, .int .i64 (t1 + 1), .int .i64 0, .int .i64 t5, .int .i64 t6, .int .i64 0, .int .i64 0, .bool t7], .int .i64 5]) (by simp [results, Tryz.results101, go_sem]) rfl ⟨rfl, ((Below.refl _ _).alloc (Nat.le_refl _) _).alloc (by simp) _⟩
 ·have e : verdictOf ⟨t0, t1, t2, t3, t4, t5, t6, t7⟩ = (⟨t0, t1, 0, t3, t4, 0, 0, true⟩, 4) := by unfold verdictOf; rw [if_neg h]
  rw [e]
  have hb : (t3 == t4) = false := by simpa using h
  clear h e
  go_enter Tryz.func101, Tryz.ntmps101
  go_wp2_with fail
  refine bodyPost_ret (v := .tuple #[.agg #[.int .i64 t0, .int .i64 t1, .int .i64 0, .int .i64 t3, .int .i64 t4, .int .i64 0, .int .i64 0, .bool true], .int .i64 4]) (by simp [results, Tryz.results101, go_sem]) rfl ⟨rfl, ((Below.refl _ _).alloc (Nat.le_refl _) _).alloc (by simp) _⟩
set_option maxRecDepth 20000 in
set_option maxHeartbeats 4000000 in
theorem specScanned_bad (key x ct cv : Int) (A : Option Addr) (l : List Int) (cap : Nat) (t0 t1 t2 t3 t4 t5 t6 : Int) (t7 : Bool) (w : World) (hn : l.length ≤ maxLen) (hcap : l.length ≤ cap) (hA : Ints w .i64 w.heap.size A l) (h : ¬ scanOk key l x ⟨t0, t1, t2, t3, t4, t5, t6, t7⟩ ct cv) :
    Calls Tryz.prog 89 #[.agg #[.int .i64 key, .slice A l.length cap], .int .i64 x, .agg #[.int .i64 t0, .int .i64 t1, .int .i64 t2, .int .i64 t3, .int .i64 t4, .int .i64 t5, .int .i64 t6, .bool t7], .agg #[.int .i64 ct, .int .i64 cv]] w fun e w' => e = .returned (.tuple #[.agg #[.int .i64 0, .int .i64 0, .int .i64 0, .int .i64 0, .int .i64 0, .int .i64 0, .int .i64 0, .bool false], .agg #[.int .i64 0, .int .i64 0], .int .i64 1]) ∧ Below w.heap.size w w' := by
 have K0 := Lib.hid (show Kept w [(w.heap.size + 1 + 1 + 1 + 1, 105, #[.int .i64 0, .int .i64 0]), (w.heap.size + 1 + 1 + 1, 43, #[.int .i64 0, .int .i64 0, .int .i64 0, .int .i64 0, .int .i64 0, .int .i64 0, .int .i64 0, .bool false]), (w.heap.size + 1 + 1, 105, #[.int .i64 ct, .int .i64 cv]), (w.heap.size + 1, 43, #[.int .i64 t0, .int .i64 t1, .int .i64 t2, .int .i64 t3, .int .i64 t4, .int .i64 t5, .int .i64 t6, .bool t7]), (w.heap.size, 26, #[.int .i64 key, .slice A l.length cap])] _ from ((((((Kept.refl w).put1 _ _ #[.int .i64 key, .slice A l.length cap] rfl).put1 _ _ #[.int .i64 t0, .int .i64 t1, .int .i64 t2, .int .i64 t3, .int .i64 t4, .int .i64 t5, .int .i64 t6, .bool t7] (by simp)).put1 _ _ #[.int .i64 ct, .int .i64 cv] (by simp)).put1 _ _ #[.int .i64 0, .int .i64 0, .int .i64 0, .int .i64 0, .int .i64 0, .int .i64 0, .int .i64 0, .bool false] (by simp)).put1 _ _ #[.int .i64 0, .int .i64 0] (by simp)))
 have FI := Lib.hid (fun (u : World) (hb : Below w.heap.size w u) => specFirst_calls key x A l cap u hn hcap ((hA.below hb (Nat.le_refl _)).more hb.size))
 have TO := Lib.hid (fun (u : World) (hb : Below w.heap.size w u) => specTrustOk_calls key x A l cap t0 t1 t2 t3 t4 t5 t6 t7 u hn ((hA.below hb (Nat.le_refl _)).more hb.size))
 have CO := Lib.hid (fun (u : World) => specCellOk_calls ct cv u)
 clear hA hn
 unfold scanOk at h
 by_cases hf : 0 ≤ firstOf key l x
 ·have hd : decide (firstOf key l x < 0) = false := decide_eq_false (by omega)
  by_cases ht : trustOk key l x ⟨t0, t1, t2, t3, t4, t5, t6, t7⟩
  ·rw [trustB_yes ht] at TO
   rw [decide_eq_false (show ¬ isCell ct cv from fun hc => h ⟨ht, hc⟩)] at CO
   clear h ht hf
   generalize firstOf key l x = f at FI hd
   go_enter Tryz.func89, Tryz.ntmps89
   go_wp2_with fail
   refine (FI.out _ K0.out.1).mono ?_; rintro e uz1 ⟨rfl, bz2⟩
   have hz3 := K0.out.below bz2
   clear bz2
   obtain ⟨kc0, kf0, kc1, kf1, kc2, kf2, kc3, kf3, kc4, kf4, -⟩ := hz3.rd
   go_wp2_with fail
   refine (TO.out _ hz3.1).mono ?_; rintro e uz4 ⟨rfl, bz5⟩
   have hz6 := hz3.below bz5
   clear bz5 hz3 kc0 kf0 kc1 kf1 kc2 kf2 kc3 kf3 kc4 kf4
   obtain ⟨kc0, kf0, kc1, kf1, kc2, kf2, kc3, kf3, kc4, kf4, -⟩ := hz6.rd
   go_wp2_with fail
   refine (CO.out _).mono ?_; rintro e uz7 ⟨rfl, bz8⟩
   have hz9 := hz6.below bz8
   clear bz8 hz6 kc0 kf0 kc1 kf1 kc2 kf2 kc3 kf3 kc4 kf4
   obtain ⟨kc0, kf0, kc1, kf1, kc2, kf2, kc3, kf3, kc4, kf4, -⟩ := hz9.rd
   go_upto_region 3 with fail
   go_wp2_with fail
   obtain ⟨w9, e9, ⟨d0, d1, d2, d3, d4, d5, d6, d7, d8, d9⟩, hb⟩ := touch_end (x0 := .int .i64 0) (x1 := .int .i64 0) (x2 := .int .i64 0) (x3 := .int .i64 0) (x4 := .int .i64 0) (x5 := .int .i64 0) (x6 := .int .i64 0) (x7 := .bool false) (y0 := .int .i64 0) (y1 := .int .i64 0) (hz9.at_ (p := w.heap.size + 1 + 1 + 1) (t := 43) (cs := #[.int .i64 0, .int .i64 0, .int .i64 0, .int .i64 0, .int .i64 0, .int .i64 0, .int .i64 0, .bool false]) (by simp)) (hz9.at_ (p := w.heap.size + 1 + 1 + 1 + 1) (t := 105) (cs := #[.int .i64 0, .int .i64 0]) (by simp)) (by omega) hz9.1 (by omega) (by omega)
   rw [e9]
   exact bodyPost_ret (v := (.tuple #[.agg #[.int .i64 0, .int .i64 0, .int .i64 0, .int .i64 0, .int .i64 0, .int .i64 0, .int .i64 0, .bool false], .agg #[.int .i64 0, .int .i64 0], .int .i64 1])) (by simp [results, Tryz.results89, go_sem, d0, d1, d2, d3, d4, d5, d6, d7, d8, d9]) rfl ⟨rfl, hb⟩
  ·rw [trustB_no ht] at TO
   clear h ht hf CO
   generalize firstOf key l x = f at FI hd
   go_enter Tryz.func89, Tryz.ntmps89
   go_wp2_with fail
   refine (FI.out _ K0.out.1).mono ?_; rintro e uz1 ⟨rfl, bz2⟩
   have hz3 := K0.out.below bz2
   clear bz2
   obtain ⟨kc0, kf0, kc1, kf1, kc2, kf2, kc3, kf3, kc4, kf4, -⟩ := hz3.rd
   go_wp2_with fail
   refine (TO.out _ hz3.1).mono ?_; rintro e uz4 ⟨rfl, bz5⟩
   have hz6 := hz3.below bz5
   clear bz5 hz3 kc0 kf0 kc1 kf1 kc2 kf2 kc3 kf3 kc4 kf4
   obtain ⟨kc0, kf0, kc1, kf1, kc2, kf2, kc3, kf3, kc4, kf4, -⟩ := hz6.rd
   go_upto_region 3 with fail
   go_wp2_with fail
   obtain ⟨w9, e9, ⟨d0, d1, d2, d3, d4, d5, d6, d7, d8, d9⟩, hb⟩ := touch_end (x0 := .int .i64 0) (x1 := .int .i64 0) (x2 := .int .i64 0) (x3 := .int .i64 0) (x4 := .int .i64 0) (x5 := .int .i64 0) (x6 := .int .i64 0) (x7 := .bool false) (y0 := .int .i64 0) (y1 := .int .i64 0) (hz6.at_ (p := w.heap.size + 1 + 1 + 1) (t := 43) (cs := #[.int .i64 0, .int .i64 0, .int .i64 0, .int .i64 0, .int .i64 0, .int .i64 0, .int .i64 0, .bool false]) (by simp)) (hz6.at_ (p := w.heap.size + 1 + 1 + 1 + 1) (t := 105) (cs := #[.int .i64 0, .int .i64 0]) (by simp)) (by omega) hz6.1 (by omega) (by omega)
   rw [e9]
   exact bodyPost_ret (v := (.tuple #[.agg #[.int .i64 0, .int .i64 0, .int .i64 0, .int .i64 0, .int .i64 0, .int .i64 0, .int .i64 0, .bool false], .agg #[.int .i64 0, .int .i64 0], .int .i64 1])) (by simp [results, Tryz.results89, go_sem, d0, d1, d2, d3, d4, d5, d6, d7, d8, d9]) rfl ⟨rfl, hb⟩
 ·have hd : decide (firstOf key l x < 0) = true := decide_eq_true (by omega)
  clear h hf CO TO
  generalize firstOf key l x = f at FI hd
  go_enter Tryz.func89, Tryz.ntmps89
  go_wp2_with fail
  refine (FI.out _ K0.out.1).mono ?_; rintro e uz1 ⟨rfl, bz2⟩
  have hz3 := K0.out.below bz2
  clear bz2
  obtain ⟨kc0, kf0, kc1, kf1, kc2, kf2, kc3, kf3, kc4, kf4, -⟩ := hz3.rd
  go_upto_region 3 with fail
  go_wp2_with fail
  obtain ⟨w9, e9, ⟨d0, d1, d2, d3, d4, d5, d6, d7, d8, d9⟩, hb⟩ := touch_end (x0 := .int .i64 0) (x1 := .int .i64 0) (x2 := .int .i64 0) (x3 := .int .i64 0) (x4 := .int .i64 0) (x5 := .int .i64 0) (x6 := .int .i64 0) (x7 := .bool false) (y0 := .int .i64 0) (y1 := .int .i64 0) (hz3.at_ (p := w.heap.size + 1 + 1 + 1) (t := 43) (cs := #[.int .i64 0, .int .i64 0, .int .i64 0, .int .i64 0, .int .i64 0, .int .i64 0, .int .i64 0, .bool false]) (by simp)) (hz3.at_ (p := w.heap.size + 1 + 1 + 1 + 1) (t := 105) (cs := #[.int .i64 0, .int .i64 0]) (by simp)) (by omega) hz3.1 (by omega) (by omega)
  rw [e9]
  exact bodyPost_ret (v := (.tuple #[.agg #[.int .i64 0, .int .i64 0, .int .i64 0, .int .i64 0, .int .i64 0, .int .i64 0, .int .i64 0, .bool false], .agg #[.int .i64 0, .int .i64 0], .int .i64 1])) (by simp [results, Tryz.results89, go_sem, d0, d1, d2, d3, d4, d5, d6, d7, d8, d9]) rfl ⟨rfl, hb⟩
set_option maxRecDepth 20000 in
set_option maxHeartbeats 4000000 in
theorem specScanned_failed (key x ct cv : Int) (A : Option Addr) (l : List Int) (cap : Nat) (t0 t1 t2 t3 t4 t5 t6 : Int) (w : World) (hn : l.length ≤ maxLen) (hcap : l.length ≤ cap) (hA : Ints w .i64 w.heap.size A l) (ht : trustOk key l x ⟨t0, t1, t2, t3, t4, t5, t6, true⟩) (hc : isCell ct cv)  :
    Calls Tryz.prog 89 #[.agg #[.int .i64 key, .slice A l.length cap], .int .i64 x, .agg #[.int .i64 t0, .int .i64 t1, .int .i64 t2, .int .i64 t3, .int .i64 t4, .int .i64 t5, .int .i64 t6, .bool true], .agg #[.int .i64 ct, .int .i64 cv]] w fun e w' => e = .returned (.tuple #[.agg #[.int .i64 t0, .int .i64 t1, .int .i64 t2, .int .i64 t3, .int .i64 t4, .int .i64 t5, .int .i64 t6, .bool true], .agg #[.int .i64 ct, .int .i64 cv], .int .i64 2]) ∧ Below w.heap.size w w' := by
 have K0 := Lib.hid (show Kept w [(w.heap.size + 1 + 1 + 1 + 1, 105, #[.int .i64 0, .int .i64 0]), (w.heap.size + 1 + 1 + 1, 43, #[.int .i64 0, .int .i64 0, .int .i64 0, .int .i64 0, .int .i64 0, .int .i64 0, .int .i64 0, .bool false]), (w.heap.size + 1 + 1, 105, #[.int .i64 ct, .int .i64 cv]), (w.heap.size + 1, 43, #[.int .i64 t0, .int .i64 t1, .int .i64 t2, .int .i64 t3, .int .i64 t4, .int .i64 t5, .int .i64 t6, .bool true]), (w.heap.size, 26, #[.int .i64 key, .slice A l.length cap])] _ from ((((((Kept.refl w).put1 _ _ #[.int .i64 key, .slice A l.length cap] rfl).put1 _ _ #[.int .i64 t0, .int .i64 t1, .int .i64 t2, .int .i64 t3, .int .i64 t4, .int .i64 t5, .int .i64 t6, .bool true] (by simp)).put1 _ _ #[.int .i64 ct, .int .i64 cv] (by simp)).put1 _ _ #[.int .i64 0, .int .i64 0, .int .i64 0, .int .i64 0, .int .i64 0, .int .i64 0, .int .i64 0, .bool false] (by simp)).put1 _ _ #[.int .i64 0, .int .i64 0] (by simp)))
 have FI := Lib.hid (fun (u : World) (hb : Below w.heap.size w u) => specFirst_calls key x A l cap u hn hcap ((hA.below hb (Nat.le_refl _)).more hb.size))
 have TO := Lib.hid (fun (u : World) (hb : Below w.heap.size w u) => specTrustOk_calls key x A l cap t0 t1 t2 t3 t4 t5 t6 true u hn ((hA.below hb (Nat.le_refl _)).more hb.size))
 have CO := Lib.hid (fun (u : World) => specCellOk_calls ct cv u)
 have hf : 0 ≤ firstOf key l x ∧ firstOf key l x ≤ 32 := by
  obtain ⟨r, hr⟩ : ∃ r : Nat, x = r := ⟨x.toNat, by have := ht.2.1; omega⟩
  have hl : r < l.length := by have := ht.2.1; omega
  rw [hr, firstOf_yes ht.1 hl]
  have h1 := upTo_bd ht.1.2.2.1 (show r ≤ l.length by omega)
  have h2 := ht.1.2.1.2
  omega
 have hd : decide (firstOf key l x < 0) = false := decide_eq_false (by omega)
 rw [trustB_yes ht] at TO
 rw [decide_eq_true hc] at CO
 clear ht hc hf hA hn
 generalize firstOf key l x = f at FI hd
 go_enter Tryz.func89, Tryz.ntmps89
 go_wp2_with fail
 refine (FI.out _ K0.out.1).mono ?_; rintro e uz1 ⟨rfl, bz2⟩
 have hz3 := K0.out.below bz2
 clear bz2
 obtain ⟨kc0, kf0, kc1, kf1, kc2, kf2, kc3, kf3, kc4, kf4, -⟩ := hz3.rd
 go_wp2_with fail
 refine (TO.out _ hz3.1).mono ?_; rintro e uz4 ⟨rfl, bz5⟩
 have hz6 := hz3.below bz5
 clear bz5 hz3 kc0 kf0 kc1 kf1 kc2 kf2 kc3 kf3 kc4 kf4
 obtain ⟨kc0, kf0, kc1, kf1, kc2, kf2, kc3, kf3, kc4, kf4, -⟩ := hz6.rd
 go_wp2_with fail
 refine (CO.out _).mono ?_; rintro e uz7 ⟨rfl, bz8⟩
 have hz9 := hz6.below bz8
 clear bz8 hz6 kc0 kf0 kc1 kf1 kc2 kf2 kc3 kf3 kc4 kf4
 obtain ⟨kc0, kf0, kc1, kf1, kc2, kf2, kc3, kf3, kc4, kf4, -⟩ := hz9.rd
 go_upto_region 5 with fail
 have hst : ∀ x ∈ ([(2, w.heap.size + 1 + 1 + 1, 43, #[.int .i64 t0, .int .i64 t1, .int .i64 t2, .int .i64 t3, .int .i64 t4, .int .i64 t5, .int .i64 t6, .bool true]), (3, w.heap.size + 1 + 1 + 1 + 1, 105, #[.int .i64 ct, .int .i64 cv])] : List Res), w.heap.size ≤ x.2.1 ∧ (∀ y ∈ ([(w.heap.size + 1 + 1, 105, #[.int .i64 ct, .int .i64 cv]), (w.heap.size + 1, 43, #[.int .i64 t0, .int .i64 t1, .int .i64 t2, .int .i64 t3, .int .i64 t4, .int .i64 t5, .int .i64 t6, .bool true]), (w.heap.size, 26, #[.int .i64 key, .slice A l.length cap])] : List Box), y.1 ≠ x.2.1) ∧ ∃ z, CellsAt uz7 x.2.1 x.2.2.1 z ∧ z.size = x.2.2.2.size := by
  intro y hy
  simp only [List.mem_cons, List.not_mem_nil, or_false] at hy
  rcases hy with rfl | rfl
  ·exact ⟨by simp only [] <;> omega, by intro y hy; simp at hy; rcases hy with rfl | rfl | rfl <;> simp <;> omega, _, hz9.at_ (t := 43) (cs := #[.int .i64 0, .int .i64 0, .int .i64 0, .int .i64 0, .int .i64 0, .int .i64 0, .int .i64 0, .bool false]) (by simp), rfl⟩
  ·exact ⟨by simp only [] <;> omega, by intro y hy; simp at hy; rcases hy with rfl | rfl | rfl <;> simp <;> omega, _, hz9.at_ (t := 105) (cs := #[.int .i64 0, .int .i64 0]) (by simp), rfl⟩
 have hn0 : Kept w [(w.heap.size + 1 + 1, 105, #[.int .i64 ct, .int .i64 cv]), (w.heap.size + 1, 43, #[.int .i64 t0, .int .i64 t1, .int .i64 t2, .int .i64 t3, .int .i64 t4, .int .i64 t5, .int .i64 t6, .bool true]), (w.heap.size, 26, #[.int .i64 key, .slice A l.length cap])] _ := hz9.sub (by intro y hy; simp at hy ⊢; rcases hy with rfl | rfl | rfl <;> simp)
 refine wp_region_free [false, false, true, true, false] (ShV []) (fun D _ u => ResC w [(w.heap.size + 1 + 1, 105, #[.int .i64 ct, .int .i64 cv]), (w.heap.size + 1, 43, #[.int .i64 t0, .int .i64 t1, .int .i64 t2, .int .i64 t3, .int .i64 t4, .int .i64 t5, .int .i64 t6, .bool true]), (w.heap.size, 26, #[.int .i64 key, .slice A l.length cap])] [(2, w.heap.size + 1 + 1 + 1, 43, #[.int .i64 t0, .int .i64 t1, .int .i64 t2, .int .i64 t3, .int .i64 t4, .int .i64 t5, .int .i64 t6, .bool true]), (3, w.heap.size + 1 + 1 + 1 + 1, 105, #[.int .i64 ct, .int .i64 cv])] D u) (by kernel_rfl) (by kernel_rfl) (fun γ => by kernel_rfl) (fun D γ γ' w _ h => h) (ShV.inh _) (fun γ => ResC.start hn0 hst) (fun γ hγ => ?_)
 clear hst hn0
 have g2 : γ 2 = undef := hγ 2 rfl
 have g3 : γ 3 = undef := hγ 3 rfl
 clear hz9 kc0 kf0 kc1 kf1 kc2 kf2 kc3 kf3 kc4 kf4
 apply Exists.intro
 refine ⟨fun D => ?_, ?_, ?_⟩
 ·simp only [hushL, cond_true, cond_false, Nat.reduceAdd, g2, g3]
  iterate 5 (first
   | go_big_quiet_skip
   | (go_big_quiet_want
      go_big_quiet_op
      first
       | go_big_quiet_on
       | (apply Exists.intro
          refine ⟨fun u hu => ?_, ?_⟩
          ·first
             | with_reducible rfl
             | (obtain ⟨kc0, kf0, kc1, kf1, kc2, kf2, -⟩ := hu.1.rd; go_simp; first | done | with_reducible rfl)
          go_big_quiet_on)))
  exact wpQuiet_nil rfl
 ·simp only [freeOk, Nat.reduceAdd]
  refine ⟨fun D u hD hd hu => ?_, fun D u hD hd hu => ?_, trivial⟩
  ·obtain ⟨z, hz, hzs⟩ := hu.at_ (k := 2) (p := w.heap.size + 1 + 1 + 1) (t := 43) (V := #[.int .i64 t0, .int .i64 t1, .int .i64 t2, .int .i64 t3, .int .i64 t4, .int .i64 t5, .int .i64 t6, .bool true]) (by simp)
   exact steps_store hz rfl rfl rfl (by kernel_rfl) hzs (by simp [Value.oneCell']) (fun w' hc hg => ⟨rfl, hu.stored (by simp) (by simp) hg hc⟩)
  ·obtain ⟨z, hz, hzs⟩ := hu.at_ (k := 3) (p := w.heap.size + 1 + 1 + 1 + 1) (t := 105) (V := #[.int .i64 ct, .int .i64 cv]) (by simp)
   exact steps_store hz rfl rfl rfl (by kernel_rfl) hzs (by simp [Value.oneCell']) (fun w' hc hg => ⟨rfl, hu.stored (by simp) (by simp) hg hc⟩)
 ·intro D uf hD hu
  have hf := hu.done (by intro y hy; simp only [List.mem_cons, List.not_mem_nil, or_false] at hy; rcases hy with rfl | rfl; exact hD 2 (by simp) rfl; exact hD 3 (by simp) rfl)
  clear hu hD
  obtain ⟨kc0, kf0, kc1, kf1, kc2, kf2, kc3, kf3, kc4, kf4, -⟩ := hf.rd
  go_wp2_with fail
  exact bodyPost_ret (v := (.tuple #[.agg #[.int .i64 t0, .int .i64 t1, .int .i64 t2, .int .i64 t3, .int .i64 t4, .int .i64 t5, .int .i64 t6, .bool true], .agg #[.int .i64 ct, .int .i64 cv], .int .i64 2])) (by simp [results, Tryz.results89, go_sem, kc0, kc1]) rfl ⟨rfl, hf.1⟩
set_option maxRecDepth 20000 in
set_option maxHeartbeats 4000000 in
theorem specScanned_spent (key x ct cv : Int) (A : Option Addr) (l : List Int) (cap : Nat) (t0 t1 t2 t3 t4 t5 t6 : Int) (w : World) (hn : l.length ≤ maxLen) (hcap : l.length ≤ cap) (hA : Ints w .i64 w.heap.size A l) (ht : trustOk key l x ⟨t0, t1, t2, t3, t4, t5, t6, false⟩) (hc : isCell ct cv) (hs : 100000 ≤ t0 ∨ 1000 ≤ t1) :
    Calls Tryz.prog 89 #[.agg #[.int .i64 key, .slice A l.length cap], .int .i64 x, .agg #[.int .i64 t0, .int .i64 t1, .int .i64 t2, .int .i64 t3, .int .i64 t4, .int .i64 t5, .int .i64 t6, .bool false], .agg #[.int .i64 ct, .int .i64 cv]] w fun e w' => e = .returned (.tuple #[.agg #[.int .i64 t0, .int .i64 t1, .int .i64 t2, .int .i64 t3, .int .i64 t4, .int .i64 t5, .int .i64 t6, .bool false], .agg #[.int .i64 ct, .int .i64 cv], .int .i64 3]) ∧ Below w.heap.size w w' := by
 have K0 := Lib.hid (show Kept w [(w.heap.size + 1 + 1 + 1 + 1, 105, #[.int .i64 0, .int .i64 0]), (w.heap.size + 1 + 1 + 1, 43, #[.int .i64 0, .int .i64 0, .int .i64 0, .int .i64 0, .int .i64 0, .int .i64 0, .int .i64 0, .bool false]), (w.heap.size + 1 + 1, 105, #[.int .i64 ct, .int .i64 cv]), (w.heap.size + 1, 43, #[.int .i64 t0, .int .i64 t1, .int .i64 t2, .int .i64 t3, .int .i64 t4, .int .i64 t5, .int .i64 t6, .bool false]), (w.heap.size, 26, #[.int .i64 key, .slice A l.length cap])] _ from ((((((Kept.refl w).put1 _ _ #[.int .i64 key, .slice A l.length cap] rfl).put1 _ _ #[.int .i64 t0, .int .i64 t1, .int .i64 t2, .int .i64 t3, .int .i64 t4, .int .i64 t5, .int .i64 t6, .bool false] (by simp)).put1 _ _ #[.int .i64 ct, .int .i64 cv] (by simp)).put1 _ _ #[.int .i64 0, .int .i64 0, .int .i64 0, .int .i64 0, .int .i64 0, .int .i64 0, .int .i64 0, .bool false] (by simp)).put1 _ _ #[.int .i64 0, .int .i64 0] (by simp)))
 have FI := Lib.hid (fun (u : World) (hb : Below w.heap.size w u) => specFirst_calls key x A l cap u hn hcap ((hA.below hb (Nat.le_refl _)).more hb.size))
 have TO := Lib.hid (fun (u : World) (hb : Below w.heap.size w u) => specTrustOk_calls key x A l cap t0 t1 t2 t3 t4 t5 t6 false u hn ((hA.below hb (Nat.le_refl _)).more hb.size))
 have CO := Lib.hid (fun (u : World) => specCellOk_calls ct cv u)
 have hf : 0 ≤ firstOf key l x ∧ firstOf key l x ≤ 32 := by
  obtain ⟨r, hr⟩ : ∃ r : Nat, x = r := ⟨x.toNat, by have := ht.2.1; omega⟩
  have hl : r < l.length := by have := ht.2.1; omega
  rw [hr, firstOf_yes ht.1 hl]
  have h1 := upTo_bd ht.1.2.2.1 (show r ≤ l.length by omega)
  have h2 := ht.1.2.1.2
  omega
 have hd : decide (firstOf key l x < 0) = false := decide_eq_false (by omega)
 rw [trustB_yes ht] at TO
 rw [decide_eq_true hc] at CO
 clear ht hc hf hA hn
 generalize firstOf key l x = f at FI hd
 by_cases h0 : 100000 ≤ t0
 ·have b0 : decide (100000 ≤ t0) = true := decide_eq_true h0
  go_enter Tryz.func89, Tryz.ntmps89
  go_wp2_with fail
  refine (FI.out _ K0.out.1).mono ?_; rintro e uz1 ⟨rfl, bz2⟩
  have hz3 := K0.out.below bz2
  clear bz2
  obtain ⟨kc0, kf0, kc1, kf1, kc2, kf2, kc3, kf3, kc4, kf4, -⟩ := hz3.rd
  go_wp2_with fail
  refine (TO.out _ hz3.1).mono ?_; rintro e uz4 ⟨rfl, bz5⟩
  have hz6 := hz3.below bz5
  clear bz5 hz3 kc0 kf0 kc1 kf1 kc2 kf2 kc3 kf3 kc4 kf4
  obtain ⟨kc0, kf0, kc1, kf1, kc2, kf2, kc3, kf3, kc4, kf4, -⟩ := hz6.rd
  go_wp2_with fail
  refine (CO.out _).mono ?_; rintro e uz7 ⟨rfl, bz8⟩
  have hz9 := hz6.below bz8
  clear bz8 hz6 kc0 kf0 kc1 kf1 kc2 kf2 kc3 kf3 kc4 kf4
  obtain ⟨kc0, kf0, kc1, kf1, kc2, kf2, kc3, kf3, kc4, kf4, -⟩ := hz9.rd
  go_upto_region 7 with fail
  have hst : ∀ x ∈ ([(2, w.heap.size + 1 + 1 + 1, 43, #[.int .i64 t0, .int .i64 t1, .int .i64 t2, .int .i64 t3, .int .i64 t4, .int .i64 t5, .int .i64 t6, .bool false]), (3, w.heap.size + 1 + 1 + 1 + 1, 105, #[.int .i64 ct, .int .i64 cv])] : List Res), w.heap.size ≤ x.2.1 ∧ (∀ y ∈ ([(w.heap.size + 1 + 1, 105, #[.int .i64 ct, .int .i64 cv]), (w.heap.size + 1, 43, #[.int .i64 t0, .int .i64 t1, .int .i64 t2, .int .i64 t3, .int .i64 t4, .int .i64 t5, .int .i64 t6, .bool false]), (w.heap.size, 26, #[.int .i64 key, .slice A l.length cap])] : List Box), y.1 ≠ x.2.1) ∧ ∃ z, CellsAt uz7 x.2.1 x.2.2.1 z ∧ z.size = x.2.2.2.size := by
   intro y hy
   simp only [List.mem_cons, List.not_mem_nil, or_false] at hy
   rcases hy with rfl | rfl
   ·exact ⟨by simp only [] <;> omega, by intro y hy; simp at hy; rcases hy with rfl | rfl | rfl <;> simp <;> omega, _, hz9.at_ (t := 43) (cs := #[.int .i64 0, .int .i64 0, .int .i64 0, .int .i64 0, .int .i64 0, .int .i64 0, .int .i64 0, .bool false]) (by simp), rfl⟩
   ·exact ⟨by simp only [] <;> omega, by intro y hy; simp at hy; rcases hy with rfl | rfl | rfl <;> simp <;> omega, _, hz9.at_ (t := 105) (cs := #[.int .i64 0, .int .i64 0]) (by simp), rfl⟩
  have hn0 : Kept w [(w.heap.size + 1 + 1, 105, #[.int .i64 ct, .int .i64 cv]), (w.heap.size + 1, 43, #[.int .i64 t0, .int .i64 t1, .int .i64 t2, .int .i64 t3, .int .i64 t4, .int .i64 t5, .int .i64 t6, .bool false]), (w.heap.size, 26, #[.int .i64 key, .slice A l.length cap])] _ := hz9.sub (by intro y hy; simp at hy ⊢; rcases hy with rfl | rfl | rfl <;> simp)
  refine wp_region_free [false, false, true, true, false] (ShV []) (fun D _ u => ResC w [(w.heap.size + 1 + 1, 105, #[.int .i64 ct, .int .i64 cv]), (w.heap.size + 1, 43, #[.int .i64 t0, .int .i64 t1, .int .i64 t2, .int .i64 t3, .int .i64 t4, .int .i64 t5, .int .i64 t6, .bool false]), (w.heap.size, 26, #[.int .i64 key, .slice A l.length cap])] [(2, w.heap.size + 1 + 1 + 1, 43, #[.int .i64 t0, .int .i64 t1, .int .i64 t2, .int .i64 t3, .int .i64 t4, .int .i64 t5, .int .i64 t6, .bool false]), (3, w.heap.size + 1 + 1 + 1 + 1, 105, #[.int .i64 ct, .int .i64 cv])] D u) (by kernel_rfl) (by kernel_rfl) (fun γ => by kernel_rfl) (fun D γ γ' w _ h => h) (ShV.inh _) (fun γ => ResC.start hn0 hst) (fun γ hγ => ?_)
  clear hst hn0
  have g2 : γ 2 = undef := hγ 2 rfl
  have g3 : γ 3 = undef := hγ 3 rfl
  clear hz9 kc0 kf0 kc1 kf1 kc2 kf2 kc3 kf3 kc4 kf4
  apply Exists.intro
  refine ⟨fun D => ?_, ?_, ?_⟩
  ·simp only [hushL, cond_true, cond_false, Nat.reduceAdd, g2, g3]
   iterate 5 (first
    | go_big_quiet_skip
    | (go_big_quiet_want
       go_big_quiet_op
       first
        | go_big_quiet_on
        | (apply Exists.intro
           refine ⟨fun u hu => ?_, ?_⟩
           ·first
              | with_reducible rfl
              | (obtain ⟨kc0, kf0, kc1, kf1, kc2, kf2, -⟩ := hu.1.rd; go_simp; first | done | with_reducible rfl)
           go_big_quiet_on)))
   exact wpQuiet_nil rfl
  ·simp only [freeOk, Nat.reduceAdd]
   refine ⟨fun D u hD hd hu => ?_, fun D u hD hd hu => ?_, trivial⟩
   ·obtain ⟨z, hz, hzs⟩ := hu.at_ (k := 2) (p := w.heap.size + 1 + 1 + 1) (t := 43) (V := #[.int .i64 t0, .int .i64 t1, .int .i64 t2, .int .i64 t3, .int .i64 t4, .int .i64 t5, .int .i64 t6, .bool false]) (by simp)
    exact steps_store hz rfl rfl rfl (by kernel_rfl) hzs (by simp [Value.oneCell']) (fun w' hc hg => ⟨rfl, hu.stored (by simp) (by simp) hg hc⟩)
   ·obtain ⟨z, hz, hzs⟩ := hu.at_ (k := 3) (p := w.heap.size + 1 + 1 + 1 + 1) (t := 105) (V := #[.int .i64 ct, .int .i64 cv]) (by simp)
    exact steps_store hz rfl rfl rfl (by kernel_rfl) hzs (by simp [Value.oneCell']) (fun w' hc hg => ⟨rfl, hu.stored (by simp) (by simp) hg hc⟩)
  ·intro D uf hD hu
   have hf := hu.done (by intro y hy; simp only [List.mem_cons, List.not_mem_nil, or_false] at hy; rcases hy with rfl | rfl; exact hD 2 (by simp) rfl; exact hD 3 (by simp) rfl)
   clear hu hD
   obtain ⟨kc0, kf0, kc1, kf1, kc2, kf2, kc3, kf3, kc4, kf4, -⟩ := hf.rd
   go_wp2_with fail
   exact bodyPost_ret (v := (.tuple #[.agg #[.int .i64 t0, .int .i64 t1, .int .i64 t2, .int .i64 t3, .int .i64 t4, .int .i64 t5, .int .i64 t6, .bool false], .agg #[.int .i64 ct, .int .i64 cv], .int .i64 3])) (by simp [results, Tryz.results89, go_sem, kc0, kc1]) rfl ⟨rfl, hf.1⟩
 ·have b0 : decide (100000 ≤ t0) = false := decide_eq_false h0
  have b1 : decide (1000 ≤ t1) = true := decide_eq_true (by omega)
  go_enter Tryz.func89, Tryz.ntmps89
  go_wp2_with fail
  refine (FI.out _ K0.out.1).mono ?_; rintro e uz1 ⟨rfl, bz2⟩
  have hz3 := K0.out.below bz2
  clear bz2
  obtain ⟨kc0, kf0, kc1, kf1, kc2, kf2, kc3, kf3, kc4, kf4, -⟩ := hz3.rd
  go_wp2_with fail
  refine (TO.out _ hz3.1).mono ?_; rintro e uz4 ⟨rfl, bz5⟩
  have hz6 := hz3.below bz5
  clear bz5 hz3 kc0 kf0 kc1 kf1 kc2 kf2 kc3 kf3 kc4 kf4
  obtain ⟨kc0, kf0, kc1, kf1, kc2, kf2, kc3, kf3, kc4, kf4, -⟩ := hz6.rd
  go_wp2_with fail
  refine (CO.out _).mono ?_; rintro e uz7 ⟨rfl, bz8⟩
  have hz9 := hz6.below bz8
  clear bz8 hz6 kc0 kf0 kc1 kf1 kc2 kf2 kc3 kf3 kc4 kf4
  obtain ⟨kc0, kf0, kc1, kf1, kc2, kf2, kc3, kf3, kc4, kf4, -⟩ := hz9.rd
  go_upto_region 7 with fail
  have hst : ∀ x ∈ ([(2, w.heap.size + 1 + 1 + 1, 43, #[.int .i64 t0, .int .i64 t1, .int .i64 t2, .int .i64 t3, .int .i64 t4, .int .i64 t5, .int .i64 t6, .bool false]), (3, w.heap.size + 1 + 1 + 1 + 1, 105, #[.int .i64 ct, .int .i64 cv])] : List Res), w.heap.size ≤ x.2.1 ∧ (∀ y ∈ ([(w.heap.size + 1 + 1, 105, #[.int .i64 ct, .int .i64 cv]), (w.heap.size + 1, 43, #[.int .i64 t0, .int .i64 t1, .int .i64 t2, .int .i64 t3, .int .i64 t4, .int .i64 t5, .int .i64 t6, .bool false]), (w.heap.size, 26, #[.int .i64 key, .slice A l.length cap])] : List Box), y.1 ≠ x.2.1) ∧ ∃ z, CellsAt uz7 x.2.1 x.2.2.1 z ∧ z.size = x.2.2.2.size := by
   intro y hy
   simp only [List.mem_cons, List.not_mem_nil, or_false] at hy
   rcases hy with rfl | rfl
   ·exact ⟨by simp only [] <;> omega, by intro y hy; simp at hy; rcases hy with rfl | rfl | rfl <;> simp <;> omega, _, hz9.at_ (t := 43) (cs := #[.int .i64 0, .int .i64 0, .int .i64 0, .int .i64 0, .int .i64 0, .int .i64 0, .int .i64 0, .bool false]) (by simp), rfl⟩
   ·exact ⟨by simp only [] <;> omega, by intro y hy; simp at hy; rcases hy with rfl | rfl | rfl <;> simp <;> omega, _, hz9.at_ (t := 105) (cs := #[.int .i64 0, .int .i64 0]) (by simp), rfl⟩
  have hn0 : Kept w [(w.heap.size + 1 + 1, 105, #[.int .i64 ct, .int .i64 cv]), (w.heap.size + 1, 43, #[.int .i64 t0, .int .i64 t1, .int .i64 t2, .int .i64 t3, .int .i64 t4, .int .i64 t5, .int .i64 t6, .bool false]), (w.heap.size, 26, #[.int .i64 key, .slice A l.length cap])] _ := hz9.sub (by intro y hy; simp at hy ⊢; rcases hy with rfl | rfl | rfl <;> simp)
  refine wp_region_free [false, false, true, true, false] (ShV []) (fun D _ u => ResC w [(w.heap.size + 1 + 1, 105, #[.int .i64 ct, .int .i64 cv]), (w.heap.size + 1, 43, #[.int .i64 t0, .int .i64 t1, .int .i64 t2, .int .i64 t3, .int .i64 t4, .int .i64 t5, .int .i64 t6, .bool false]), (w.heap.size, 26, #[.int .i64 key, .slice A l.length cap])] [(2, w.heap.size + 1 + 1 + 1, 43, #[.int .i64 t0, .int .i64 t1, .int .i64 t2, .int .i64 t3, .int .i64 t4, .int .i64 t5, .int .i64 t6, .bool false]), (3, w.heap.size + 1 + 1 + 1 + 1, 105, #[.int .i64 ct, .int .i64 cv])] D u) (by kernel_rfl) (by kernel_rfl) (fun γ => by kernel_rfl) (fun D γ γ' w _ h => h) (ShV.inh _) (fun γ => ResC.start hn0 hst) (fun γ hγ => ?_)
  clear hst hn0
  have g2 : γ 2 = undef := hγ 2 rfl
  have g3 : γ 3 = undef := hγ 3 rfl
  clear hz9 kc0 kf0 kc1 kf1 kc2 kf2 kc3 kf3 kc4 kf4
  apply Exists.intro
  refine ⟨fun D => ?_, ?_, ?_⟩
  ·simp only [hushL, cond_true, cond_false, Nat.reduceAdd, g2, g3]
   iterate 5 (first
    | go_big_quiet_skip
    | (go_big_quiet_want
       go_big_quiet_op
       first
        | go_big_quiet_on
        | (apply Exists.intro
           refine ⟨fun u hu => ?_, ?_⟩
           ·first
              | with_reducible rfl
              | (obtain ⟨kc0, kf0, kc1, kf1, kc2, kf2, -⟩ := hu.1.rd; go_simp; first | done | with_reducible rfl)
           go_big_quiet_on)))
   exact wpQuiet_nil rfl
  ·simp only [freeOk, Nat.reduceAdd]
   refine ⟨fun D u hD hd hu => ?_, fun D u hD hd hu => ?_, trivial⟩
   ·obtain ⟨z, hz, hzs⟩ := hu.at_ (k := 2) (p := w.heap.size + 1 + 1 + 1) (t := 43) (V := #[.int .i64 t0, .int .i64 t1, .int .i64 t2, .int .i64 t3, .int .i64 t4, .int .i64 t5, .int .i64 t6, .bool false]) (by simp)
    exact steps_store hz rfl rfl rfl (by kernel_rfl) hzs (by simp [Value.oneCell']) (fun w' hc hg => ⟨rfl, hu.stored (by simp) (by simp) hg hc⟩)
   ·obtain ⟨z, hz, hzs⟩ := hu.at_ (k := 3) (p := w.heap.size + 1 + 1 + 1 + 1) (t := 105) (V := #[.int .i64 ct, .int .i64 cv]) (by simp)
    exact steps_store hz rfl rfl rfl (by kernel_rfl) hzs (by simp [Value.oneCell']) (fun w' hc hg => ⟨rfl, hu.stored (by simp) (by simp) hg hc⟩)
  ·intro D uf hD hu
   have hf := hu.done (by intro y hy; simp only [List.mem_cons, List.not_mem_nil, or_false] at hy; rcases hy with rfl | rfl; exact hD 2 (by simp) rfl; exact hD 3 (by simp) rfl)
   clear hu hD
   obtain ⟨kc0, kf0, kc1, kf1, kc2, kf2, kc3, kf3, kc4, kf4, -⟩ := hf.rd
   go_wp2_with fail
   exact bodyPost_ret (v := (.tuple #[.agg #[.int .i64 t0, .int .i64 t1, .int .i64 t2, .int .i64 t3, .int .i64 t4, .int .i64 t5, .int .i64 t6, .bool false], .agg #[.int .i64 ct, .int .i64 cv], .int .i64 3])) (by simp [results, Tryz.results89, go_sem, kc0, kc1]) rfl ⟨rfl, hf.1⟩
set_option maxRecDepth 20000 in
set_option maxHeartbeats 4000000 in
theorem specScanned_caught (key x ct cv : Int) (A : Option Addr) (l : List Int) (cap : Nat) (t0 t1 t2 t3 t4 t5 t6 : Int) (w : World) (hn : l.length ≤ maxLen) (hcap : l.length ≤ cap) (hA : Ints w .i64 w.heap.size A l) (ht : trustOk key l x ⟨t0, t1, t2, t3, t4, t5, t6, false⟩) (hc : isCell ct cv) (h0 : ¬ 100000 ≤ t0) (h1 : ¬ 1000 ≤ t1) (hct : t0 < ct) :
    Calls Tryz.prog 89 #[.agg #[.int .i64 key, .slice A l.length cap], .int .i64 x, .agg #[.int .i64 t0, .int .i64 t1, .int .i64 t2, .int .i64 t3, .int .i64 t4, .int .i64 t5, .int .i64 t6, .bool false], .agg #[.int .i64 ct, .int .i64 cv]] w fun e w' => e = .returned (.tuple #[.agg #[.int .i64 t0, .int .i64 t1, .int .i64 t2, .int .i64 t3, .int .i64 t4, .int .i64 t5, .int .i64 t6, .bool true], .agg #[.int .i64 ct, .int .i64 cv], .int .i64 4]) ∧ Below w.heap.size w w' := by
 have K0 := Lib.hid (show Kept w [(w.heap.size + 1 + 1 + 1 + 1, 105, #[.int .i64 0, .int .i64 0]), (w.heap.size + 1 + 1 + 1, 43, #[.int .i64 0, .int .i64 0, .int .i64 0, .int .i64 0, .int .i64 0, .int .i64 0, .int .i64 0, .bool false]), (w.heap.size + 1 + 1, 105, #[.int .i64 ct, .int .i64 cv]), (w.heap.size + 1, 43, #[.int .i64 t0, .int .i64 t1, .int .i64 t2, .int .i64 t3, .int .i64 t4, .int .i64 t5, .int .i64 t6, .bool false]), (w.heap.size, 26, #[.int .i64 key, .slice A l.length cap])] _ from ((((((Kept.refl w).put1 _ _ #[.int .i64 key, .slice A l.length cap] rfl).put1 _ _ #[.int .i64 t0, .int .i64 t1, .int .i64 t2, .int .i64 t3, .int .i64 t4, .int .i64 t5, .int .i64 t6, .bool false] (by simp)).put1 _ _ #[.int .i64 ct, .int .i64 cv] (by simp)).put1 _ _ #[.int .i64 0, .int .i64 0, .int .i64 0, .int .i64 0, .int .i64 0, .int .i64 0, .int .i64 0, .bool false] (by simp)).put1 _ _ #[.int .i64 0, .int .i64 0] (by simp)))
 have FI := Lib.hid (fun (u : World) (hb : Below w.heap.size w u) => specFirst_calls key x A l cap u hn hcap ((hA.below hb (Nat.le_refl _)).more hb.size))
 have TO := Lib.hid (fun (u : World) (hb : Below w.heap.size w u) => specTrustOk_calls key x A l cap t0 t1 t2 t3 t4 t5 t6 false u hn ((hA.below hb (Nat.le_refl _)).more hb.size))
 have CO := Lib.hid (fun (u : World) => specCellOk_calls ct cv u)
 have hf : 0 ≤ firstOf key l x ∧ firstOf key l x ≤ 32 := by
  obtain ⟨r, hr⟩ : ∃ r : Nat, x = r := ⟨x.toNat, by have := ht.2.1; omega⟩
  have hl : r < l.length := by have := ht.2.1; omega
  rw [hr, firstOf_yes ht.1 hl]
  have h1 := upTo_bd ht.1.2.2.1 (show r ≤ l.length by omega)
  have h2 := ht.1.2.1.2
  omega
 have hd : decide (firstOf key l x < 0) = false := decide_eq_false (by omega)
 rw [trustB_yes ht] at TO
 rw [decide_eq_true hc] at CO
 clear ht hc hf hA hn
 generalize firstOf key l x = f at FI hd
 have b0 : decide (100000 ≤ t0) = false := decide_eq_false h0
 have b1 : decide (1000 ≤ t1) = false := decide_eq_false h1
 go_enter Tryz.func89, Tryz.ntmps89
 go_wp2_with fail
 refine (FI.out _ K0.out.1).mono ?_; rintro e uz1 ⟨rfl, bz2⟩
 have hz3 := K0.out.below bz2
 clear bz2
 obtain ⟨kc0, kf0, kc1, kf1, kc2, kf2, kc3, kf3, kc4, kf4, -⟩ := hz3.rd
 go_wp2_with fail
 refine (TO.out _ hz3.1).mono ?_; rintro e uz4 ⟨rfl, bz5⟩
 have hz6 := hz3.below bz5
 clear bz5 hz3 kc0 kf0 kc1 kf1 kc2 kf2 kc3 kf3 kc4 kf4
 obtain ⟨kc0, kf0, kc1, kf1, kc2, kf2, kc3, kf3, kc4, kf4, -⟩ := hz6.rd
 go_wp2_with fail
 refine (CO.out _).mono ?_; rintro e uz7 ⟨rfl, bz8⟩
 have hz9 := hz6.below bz8
 clear bz8 hz6 kc0 kf0 kc1 kf1 kc2 kf2 kc3 kf3 kc4 kf4
 obtain ⟨kc0, kf0, kc1, kf1, kc2, kf2, kc3, kf3, kc4, kf4, -⟩ := hz9.rd
 go_upto_region 10 with fail
 have hz10 : Kept w [(w.heap.size + 1 + 1 + 1 + 1, 105, #[.int .i64 0, .int .i64 0]), (w.heap.size + 1 + 1 + 1, 43, #[.int .i64 0, .int .i64 0, .int .i64 0, .int .i64 0, .int .i64 0, .int .i64 0, .int .i64 0, .bool false]), (w.heap.size + 1 + 1, 105, #[.int .i64 ct, .int .i64 cv]), (w.heap.size + 1, 43, #[.int .i64 t0, .int .i64 t1, .int .i64 t2, .int .i64 t3, .int .i64 t4, .int .i64 t5, .int .i64 t6, .bool true]), (w.heap.size, 26, #[.int .i64 key, .slice A l.length cap])] _ := hz9.put (k := 3) rfl (by unfold Apart; simp <;> omega) (gb_set (gb_refl _ (some (w.heap.size + 1))) 7 (.bool true)) ((hz9.at_ (p := w.heap.size + 1) (t := 43) (cs := #[.int .i64 t0, .int .i64 t1, .int .i64 t2, .int .i64 t3, .int .i64 t4, .int .i64 t5, .int .i64 t6, .bool false]) (by simp)).set_ 7 _)
 clear hz9 kc0 kf0 kc1 kf1 kc2 kf2 kc3 kf3 kc4 kf4
 generalize World.setCell _ _ _ = wq at hz10 ⊢
 obtain ⟨kc0, kf0, kc1, kf1, kc2, kf2, kc3, kf3, kc4, kf4, -⟩ := hz10.rd
 have hst : ∀ x ∈ ([(2, w.heap.size + 1 + 1 + 1, 43, #[.int .i64 t0, .int .i64 t1, .int .i64 t2, .int .i64 t3, .int .i64 t4, .int .i64 t5, .int .i64 t6, .bool true]), (3, w.heap.size + 1 + 1 + 1 + 1, 105, #[.int .i64 ct, .int .i64 cv])] : List Res), w.heap.size ≤ x.2.1 ∧ (∀ y ∈ ([(w.heap.size + 1 + 1, 105, #[.int .i64 ct, .int .i64 cv]), (w.heap.size + 1, 43, #[.int .i64 t0, .int .i64 t1, .int .i64 t2, .int .i64 t3, .int .i64 t4, .int .i64 t5, .int .i64 t6, .bool true]), (w.heap.size, 26, #[.int .i64 key, .slice A l.length cap])] : List Box), y.1 ≠ x.2.1) ∧ ∃ z, CellsAt wq x.2.1 x.2.2.1 z ∧ z.size = x.2.2.2.size := by
  intro y hy
  simp only [List.mem_cons, List.not_mem_nil, or_false] at hy
  rcases hy with rfl | rfl
  ·exact ⟨by simp only [] <;> omega, by intro y hy; simp at hy; rcases hy with rfl | rfl | rfl <;> simp <;> omega, _, hz10.at_ (t := 43) (cs := #[.int .i64 0, .int .i64 0, .int .i64 0, .int .i64 0, .int .i64 0, .int .i64 0, .int .i64 0, .bool false]) (by simp), rfl⟩
  ·exact ⟨by simp only [] <;> omega, by intro y hy; simp at hy; rcases hy with rfl | rfl | rfl <;> simp <;> omega, _, hz10.at_ (t := 105) (cs := #[.int .i64 0, .int .i64 0]) (by simp), rfl⟩
 have hn0 : Kept w [(w.heap.size + 1 + 1, 105, #[.int .i64 ct, .int .i64 cv]), (w.heap.size + 1, 43, #[.int .i64 t0, .int .i64 t1, .int .i64 t2, .int .i64 t3, .int .i64 t4, .int .i64 t5, .int .i64 t6, .bool true]), (w.heap.size, 26, #[.int .i64 key, .slice A l.length cap])] _ := hz10.sub (by intro y hy; simp at hy ⊢; rcases hy with rfl | rfl | rfl <;> simp)
 refine wp_region_free [false, false, true, true, false] (ShV []) (fun D _ u => ResC w [(w.heap.size + 1 + 1, 105, #[.int .i64 ct, .int .i64 cv]), (w.heap.size + 1, 43, #[.int .i64 t0, .int .i64 t1, .int .i64 t2, .int .i64 t3, .int .i64 t4, .int .i64 t5, .int .i64 t6, .bool true]), (w.heap.size, 26, #[.int .i64 key, .slice A l.length cap])] [(2, w.heap.size + 1 + 1 + 1, 43, #[.int .i64 t0, .int .i64 t1, .int .i64 t2, .int .i64 t3, .int .i64 t4, .int .i64 t5, .int .i64 t6, .bool true]), (3, w.heap.size + 1 + 1 + 1 + 1, 105, #[.int .i64 ct, .int .i64 cv])] D u) (by kernel_rfl) (by kernel_rfl) (fun γ => by kernel_rfl) (fun D γ γ' w _ h => h) (ShV.inh _) (fun γ => ResC.start hn0 hst) (fun γ hγ => ?_)
 clear hst hn0
 have g2 : γ 2 = undef := hγ 2 rfl
 have g3 : γ 3 = undef := hγ 3 rfl
 clear hz10 kc0 kf0 kc1 kf1 kc2 kf2 kc3 kf3 kc4 kf4
 apply Exists.intro
 refine ⟨fun D => ?_, ?_, ?_⟩
 ·simp only [hushL, cond_true, cond_false, Nat.reduceAdd, g2, g3]
  iterate 5 (first
   | go_big_quiet_skip
   | (go_big_quiet_want
      go_big_quiet_op
      first
       | go_big_quiet_on
       | (apply Exists.intro
          refine ⟨fun u hu => ?_, ?_⟩
          ·first
             | with_reducible rfl
             | (obtain ⟨kc0, kf0, kc1, kf1, kc2, kf2, -⟩ := hu.1.rd; go_simp; first | done | with_reducible rfl)
          go_big_quiet_on)))
  exact wpQuiet_nil rfl
 ·simp only [freeOk, Nat.reduceAdd]
  refine ⟨fun D u hD hd hu => ?_, fun D u hD hd hu => ?_, trivial⟩
  ·obtain ⟨z, hz, hzs⟩ := hu.at_ (k := 2) (p := w.heap.size + 1 + 1 + 1) (t := 43) (V := #[.int .i64 t0, .int .i64 t1, .int .i64 t2, .int .i64 t3, .int .i64 t4, .int .i64 t5, .int .i64 t6, .bool true]) (by simp)
   exact steps_store hz rfl rfl rfl (by kernel_rfl) hzs (by simp [Value.oneCell']) (fun w' hc hg => ⟨rfl, hu.stored (by simp) (by simp) hg hc⟩)
  ·obtain ⟨z, hz, hzs⟩ := hu.at_ (k := 3) (p := w.heap.size + 1 + 1 + 1 + 1) (t := 105) (V := #[.int .i64 ct, .int .i64 cv]) (by simp)
   exact steps_store hz rfl rfl rfl (by kernel_rfl) hzs (by simp [Value.oneCell']) (fun w' hc hg => ⟨rfl, hu.stored (by simp) (by simp) hg hc⟩)
 ·intro D uf hD hu
  have hf := hu.done (by intro y hy; simp only [List.mem_cons, List.not_mem_nil, or_false] at hy; rcases hy with rfl | rfl; exact hD 2 (by simp) rfl; exact hD 3 (by simp) rfl)
  clear hu hD
  obtain ⟨kc0, kf0, kc1, kf1, kc2, kf2, kc3, kf3, kc4, kf4, -⟩ := hf.rd
  go_wp2_with fail
  exact bodyPost_ret (v := (.tuple #[.agg #[.int .i64 t0, .int .i64 t1, .int .i64 t2, .int .i64 t3, .int .i64 t4, .int .i64 t5, .int .i64 t6, .bool true], .agg #[.int .i64 ct, .int .i64 cv], .int .i64 4])) (by simp [results, Tryz.results89, go_sem, kc0, kc1]) rfl ⟨rfl, hf.1⟩
end Go.Proofs.YtodmponjjhokdaaGreat.Mx

import Derived.Test.YtodmponjjhokdaaGreatG10
import Derived.Test.YtodmponjjhokdaaGreatG11
namespace Go.Proofs.YtodmponjjhokdaaGreat.Mx
open Go.ChangeShapes Go.WideShapes Go.ChangeAt Go.RowKit
set_option linter.unusedVariables false
theorem roll_append (f m s : Int) (xs ys : List Int) : roll f m s (xs ++ ys) = roll f m (roll f m s xs) ys := by unfold roll; rw [List.foldl_append]
theorem roll_cons (f m s a : Int) (ys : List Int) : roll f m s (a :: ys) = roll f m ((s * f + a % m + 1) % m) ys := rfl
theorem same_rest {x y : Int} (h : x % 2147483647 = y % 2147483647) : ∃ k, x - y = 2147483647 * k :=
 Int.dvd_of_emod_eq_zero (Int.emod_eq_emod_iff_emod_sub_eq_zero.1 h)
theorem step_inj {s t c : Int} (s0 : 0 ≤ s) (s1 : s < 2147483647) (t0 : 0 ≤ t) (t1 : t < 2147483647) (h : (s * 131 + c + 1) % 2147483647 = (t * 131 + c + 1) % 2147483647) : s = t := by
 obtain ⟨k, hk⟩ := same_rest h
 omega
theorem roll_inj (ys : List Int) : ∀ {s t : Int}, 0 ≤ s → s < 2147483647 → 0 ≤ t → t < 2147483647 → roll 131 2147483647 s ys = roll 131 2147483647 t ys → s = t := by
 induction ys with
 | nil => intro s t _ _ _ _ h; exact h
 | cons a ys ih =>
   intro s t s0 s1 t0 t1 h
   rw [roll_cons, roll_cons] at h
   exact step_inj s0 s1 t0 t1 (ih (Int.emod_nonneg _ (by omega)) (Int.emod_lt_of_pos _ (by omega)) (Int.emod_nonneg _ (by omega)) (Int.emod_lt_of_pos _ (by omega)) h)
theorem roll_ne {s a b : Int} (xs ys : List Int) (s0 : 0 ≤ s) (s1 : s < 2147483647) (a0 : 0 ≤ a) (a1 : a < 2147483647) (b0 : 0 ≤ b) (b1 : b < 2147483647) (hab : a ≠ b) : roll 131 2147483647 s (xs ++ a :: ys) ≠ roll 131 2147483647 s (xs ++ b :: ys) := by
 intro h
 rw [roll_append, roll_append, roll_cons, roll_cons] at h
 have hr := roll_inj ys (Int.emod_nonneg _ (by omega)) (Int.emod_lt_of_pos _ (by omega)) (Int.emod_nonneg _ (by omega)) (Int.emod_lt_of_pos _ (by omega)) h
 rw [Int.emod_eq_of_lt a0 a1, Int.emod_eq_of_lt b0 b1] at hr
 generalize roll 131 2147483647 s xs * 131 = z at hr
 obtain ⟨k, hk⟩ := same_rest hr
 omega
theorem mix_ne {key a b : Int} (xs ys : List Int) (k0 : 1 ≤ key) (k1 : key ≤ 1000000) (a0 : 0 ≤ a) (a1 : a < 2147483647) (b0 : 0 ≤ b) (b1 : b < 2147483647) (hab : a ≠ b) (hf : Fine (xs ++ a :: ys)) (hg : Fine (xs ++ b :: ys)) : mixOf key (xs ++ a :: ys) ≠ mixOf key (xs ++ b :: ys) := by
 rw [mixOf_yes k0 k1 hf, mixOf_yes k0 k1 hg]
 have h1 := roll_ne xs ys (s := 7 + key) (by omega) (by omega) a0 a1 b0 b1 hab
 have h2 := roll_bd 137 2147483629 (11 + 2 * key) (xs ++ a :: ys) (by omega) (by omega) (by omega)
 have h3 := roll_bd 137 2147483629 (11 + 2 * key) (xs ++ b :: ys) (by omega) (by omega) (by omega)
 generalize roll 131 2147483647 (7 + key) (xs ++ a :: ys) = x at h1 ⊢
 generalize roll 131 2147483647 (7 + key) (xs ++ b :: ys) = x' at h1 ⊢
 generalize roll 137 2147483629 (11 + 2 * key) (xs ++ a :: ys) = y at h2 ⊢
 generalize roll 137 2147483629 (11 + 2 * key) (xs ++ b :: ys) = y' at h3 ⊢
 omega
theorem fine_mem {l : List Int} (h : ∀ x ∈ l, 0 ≤ x) : Fine l := by
 intro i hi
 rw [List.getD_eq_getElem?_getD, List.getElem?_eq_getElem hi]
 exact h _ (List.getElem_mem hi)
theorem flagN_bd (b : Bool) : 0 ≤ flagN b ∧ flagN b < 2147483647 := by cases b <;> (unfold flagN; simp)
theorem row_fine {key : Int} {l : List Int} {r : Int} {t : Tru} (h : trustOk key l r t) : ∀ x ∈ macRow t, 0 ≤ x := by
 obtain ⟨_, _, h1, h2, h3, _, h4, h5, h6, h7⟩ := h
 have hf := (flagN_bd t.failed).1
 unfold isTm at h1
 unfold isSumP at h4 h5 h6 h7
 intro x hx
 simp only [macRow, List.mem_cons, List.not_mem_nil, or_false] at hx
 rcases hx with rfl | rfl | rfl | rfl | rfl | rfl | rfl | rfl <;> omega
theorem flat_fine {key : Int} {l : List Int} {L : List Tru} (h : trustsOk key l L) : ∀ x ∈ L.flatMap macRow, 0 ≤ x := by
 intro x hx
 obtain ⟨t, ht, hxt⟩ := List.mem_flatMap.1 hx
 obtain ⟨i, hi, rfl⟩ := List.mem_iff_getElem.1 ht
 have := h.2.2 i hi
 rw [List.getD_eq_getElem?_getD, List.getElem?_eq_getElem hi, Option.getD_some] at this
 exact row_fine this x hxt
theorem mac_fine {key cnt : Int} {l : List Int} {L : List Tru} (h : trustsOk key l L) (h0 : 0 ≤ cnt) : Fine (macList cnt L) := by
 refine fine_mem fun x hx => ?_
 unfold macList at hx
 rcases List.mem_append.1 hx with hx | hx
 ·simp only [List.mem_cons, List.not_mem_nil, or_false] at hx
  rcases hx with rfl | rfl | rfl <;> omega
 ·exact flat_fine h x hx
theorem mac_count {key cnt : Int} {l : List Int} {L : List Tru} (h : trustsOk key l L) (h0 : 0 ≤ cnt) (h1 : cnt ≤ 10000) : macOf key l cnt L ≠ macOf key l (cnt + 1) L := by
 unfold macOf
 rw [if_pos h.1, if_pos h.1]
 have hk : 1 ≤ key ∧ key ≤ 1000000 := h.1.1
 exact mix_ne [3] ((L.length : Int) :: L.flatMap macRow) hk.1 hk.2 h0 (by omega) (by omega) (by omega) (by omega) (mac_fine h h0) (mac_fine h (by omega))
theorem mac_flag {key cnt : Int} {l : List Int} {L : List Tru} {i : Nat} (hi : i < L.length) (h : trustsOk key l L) (h' : trustsOk key l (L.set i { L.getD i default with failed := !(L.getD i default).failed })) (h0 : 0 ≤ cnt) :
    macOf key l cnt L ≠ macOf key l cnt (L.set i { L.getD i default with failed := !(L.getD i default).failed }) := by
 have hk : 1 ≤ key ∧ key ≤ 1000000 := h.1.1
 have F1 := mac_fine h h0
 have F2 := mac_fine h' h0
 unfold macOf
 rw [if_pos h.1, if_pos h.1]
 have ht : L.getD i default = L[i] := by rw [List.getD_eq_getElem?_getD, List.getElem?_eq_getElem hi]; rfl
 rw [ht] at F2 ⊢
 generalize hT : L[i] = t at F2 ⊢
 have e1 : macList cnt L = ([3, cnt, (L.length : Int)] ++ (L.take i).flatMap macRow ++ [t.clock, t.epoch, t.cursor, t.read, t.written, t.nread, t.nwritten]) ++ flagN t.failed :: (L.drop (i + 1)).flatMap macRow := by
  unfold macList
  have e0 : L.flatMap macRow = (L.take i).flatMap macRow ++ (macRow t ++ (L.drop (i + 1)).flatMap macRow) := by
   conv => lhs; rw [← List.take_append_drop i L, List.drop_eq_getElem_cons hi, hT]
   rw [List.flatMap_append, List.flatMap_cons]
  rw [e0]
  simp [macRow, List.append_assoc]
 have e2 : macList cnt (L.set i { t with failed := !t.failed }) = ([3, cnt, (L.length : Int)] ++ (L.take i).flatMap macRow ++ [t.clock, t.epoch, t.cursor, t.read, t.written, t.nread, t.nwritten]) ++ flagN (!t.failed) :: (L.drop (i + 1)).flatMap macRow := by
  unfold macList
  rw [List.length_set, List.set_eq_take_append_cons_drop, if_pos hi, List.flatMap_append, List.flatMap_cons]
  simp [macRow, List.append_assoc]
 rw [e1] at F1 ⊢
 rw [e2] at F2 ⊢
 have b1 := flagN_bd t.failed
 have b2 := flagN_bd (!t.failed)
 exact mix_ne _ _ hk.1 hk.2 b1.1 b1.2 b2.1 b2.2 (by cases t.failed <;> (unfold flagN; simp)) F1 F2
theorem seal_right {key cnt : Int} {l : List Int} {L : List Tru} (h : trustsOk key l L) (h0 : 0 ≤ cnt ∧ cnt ≤ 10000) : sealB key l cnt L (macOf key l cnt L) = true := by
 unfold sealB
 rw [trustsB_yes h, decide_eq_true h0, decide_eq_true rfl]; rfl
theorem seal_count {key cnt : Int} {l : List Int} {L : List Tru} (h : trustsOk key l L) (h0 : 0 ≤ cnt ∧ cnt ≤ 10000) : sealB key l (cnt + 1) L (macOf key l cnt L) = false := by
 unfold sealB
 rw [decide_eq_false (mac_count h h0.1 h0.2), Bool.and_false]
theorem seal_mac {key cnt : Int} {l : List Int} {L : List Tru} : sealB key l cnt L (macOf key l cnt L + 1) = false := by
 unfold sealB
 generalize macOf key l cnt L = m
 rw [decide_eq_false (show ¬ m + 1 = m by omega), Bool.and_false]
theorem seal_flag {key cnt : Int} {l : List Int} {L : List Tru} {i : Nat} (hi : i < L.length) (h : trustsOk key l L) (h0 : 0 ≤ cnt ∧ cnt ≤ 10000) : sealB key l cnt (L.set i { L.getD i default with failed := !(L.getD i default).failed }) (macOf key l cnt L) = false := by
 unfold sealB
 by_cases h' : trustsOk key l (L.set i { L.getD i default with failed := !(L.getD i default).failed })
 ·rw [decide_eq_false (mac_flag hi h h' h0.1), Bool.and_false]
 ·rw [trustsB_no h', Bool.false_and, Bool.false_and]
theorem seal_none {key cnt mac : Int} {l : List Int} : sealB key l cnt [] mac = false := by
 unfold sealB
 rw [trustsB_no (fun h => by have h1 := h.2.1; have h2 := h.1.2.1.1; simp at h1; omega), Bool.false_and, Bool.false_and]
theorem mac_bd {key cnt : Int} {l : List Int} {L : List Tru} : -1 ≤ macOf key l cnt L ∧ macOf key l cnt L < 4611686018427387904 := by
 unfold macOf
 split
 ·unfold mixOf
  split
  ·rename_i _ hk
   have h1 := roll_bd 131 2147483647 (7 + key) (macList cnt L) (by omega) (by omega) (by omega)
   have h2 := roll_bd 137 2147483629 (11 + 2 * key) (macList cnt L) (by omega) (by omega) (by omega)
   omega
  ·omega
 ·omega
end Go.Proofs.YtodmponjjhokdaaGreat.Mx
namespace Go.Proofs.YtodmponjjhokdaaGreat.Mx
open Go.ChangeShapes Go.WideShapes Go.ChangeAt Go.RowKit
set_option linter.unusedVariables false
end Go.Proofs.YtodmponjjhokdaaGreat.Mx

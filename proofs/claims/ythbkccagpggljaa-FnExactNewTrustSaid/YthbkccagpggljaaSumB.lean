/- CONTRACTS OF impl.SumOf AND spec.SumOf. -/
import Derived.Test.YthbkccagpggljaaTripB
namespace Go.Proofs.Ythbkccagpggljaa.Mx
open Go.ChangeShapes Go.WideShapes Go.ChangeAt Go.RowKit Go.Maps
set_option linter.unusedVariables false

noncomputable def sumAll (key s : Int) (L : List Tri) : Int := L.foldl (fun s x => addOf s (tagOf key x.1 x.2.1 x.2.2)) s
/-- What chapter 4 asks of SumOf. -/
noncomputable def sumOf (key : Int) (L : List Tri) : Int := if 1 ≤ key ∧ key ≤ 1000000 then sumAll key 0 L else -1
theorem sumAll_snoc (key s : Int) (L : List Tri) (x : Tri) : sumAll key s (L ++ [x]) = addOf (sumAll key s L) (tagOf key x.1 x.2.1 x.2.2) := by simp [sumAll]
theorem addOf_no (s : Int) : addOf s (-1) = -1 := by unfold addOf; rw [if_neg (by omega)]
theorem addOf_no' (t : Int) : addOf (-1) t = -1 := by unfold addOf; rw [if_neg (by omega)]
theorem sumAll_no (key : Int) (L : List Tri) : sumAll key (-1) L = -1 := by
  induction L with
  | nil => rfl
  | cons x L ih => show sumAll key (addOf (-1) _) L = -1; rw [addOf_no']; exact ih
theorem sumAll_bad {key s : Int} {L : List Tri} {x : Tri} (hx : x ∈ L) (hb : ¬ isTri x.1 x.2.1 x.2.2) : sumAll key s L = -1 := by
  induction L generalizing s with
  | nil => cases hx
  | cons y L ih =>
    rcases List.mem_cons.1 hx with rfl | hx
    · show sumAll key (addOf s _) L = -1; rw [tagOf_no hb, addOf_no]; exact sumAll_no key L
    · exact ih hx
theorem sumAll_take {key s : Int} {L : List Tri} {k : Nat} {a t v : Int} (h : L.take (k + 1) = L.take k ++ [(a, t, v)]) : sumAll key s (L.take (k + 1)) = addOf (sumAll key s (L.take k)) (tagOf key a t v) := by rw [h, sumAll_snoc]
theorem held_tag {key : Int} {L : List Tri} {a t v : Int} (h : (a, t, v) ∈ L) : (tagsHeld key L a t v).getD 0 = tagOf key a t v := by simp [tagsHeld, h]
theorem specSum_key (key : Int) (A : Option Addr) (L : List Tri) (cap : Nat) (w : World) (hk : key < 1 ∨ 1000000 < key) :
    Calls Try.prog 18 #[.int .i64 key, .slice A L.length cap] w fun e w' => e = .returned (.int .i64 (-1)) ∧ w = w' := by
  go_enter Try.func18, Try.ntmps18
  go_wp2_with (go_at_call 29; refine (l1Key_no _ _ hk).mono ?_; rintro e w' ⟨rfl, rfl⟩)
  go_ret
  exact ⟨rfl, rfl⟩

set_option maxHeartbeats 1000000 in
theorem specSum_good (key : Int) (A : Option Addr) (L : List Tri) (cap : Nat) (w : World) (hn : L.length < maxLen) (hA : Tris w w.heap.size A L) (k0 : 1 ≤ key) (k1 : key ≤ 1000000) :
    Calls Try.prog 18 #[.int .i64 key, .slice A L.length cap] w fun e w' => e = .returned (.int .i64 (sumAll key 0 L)) ∧ Below w.heap.size w w' := by
  have hm := hn
  unfold maxLen at hm
  have HA := Lib.hid hA
  clear hA hn
  go_enter Try.func18, Try.ntmps18
  go_wp2_with fail
  refine (l1Key_yes _ _ k0 k1).mono ?_; rintro e w' ⟨rfl, rfl⟩
  go_wp2_with fail
  go_loopw [5, 6] (fun s i wr => ∃ k : Nat, k ≤ L.length ∧ i = .int .i64 k ∧ s = .int .i64 (sumAll key 0 (L.take k)) ∧ Below w.heap.size w wr) (fun _ i _ => L.length - (intOf i).toNat)
  case atStart => exact ⟨0, Nat.zero_le _, rfl, rfl, Below.refl _ _⟩
  case round =>
    obtain ⟨k, hk, rfl, rfl, hbel⟩ := hrel
    have HB := Lib.hid hbel
    have hAr := HA.out.below hbel (Nat.le_refl _)
    clear hbel
    by_cases hlt : k < L.length
    · obtain ⟨b, off, rfl, hb, c0, c1, c2⟩ := hAr k hlt
      have hlt' : (k : Int) < L.length := by omega
      have hk0 : (0 : Int) ≤ k := by omega
      have hs := take_snoc hlt
      have hin := getD_mem hlt
      clear hAr
      generalize L.getD k (0, 0, 0) = T at c0 c1 c2 hs hin
      obtain ⟨a, t, v⟩ := T
      simp only at c0 c1 c2
      have HS := Lib.hid (sumAll_take (key := key) (s := 0) hs)
      have CO := Lib.hid (fun w => specTripleOk_calls a t v w)
      have CT := Lib.hid (fun w => specTag_calls key a t v w)
      by_cases hok : isTri a t v
      · rw [decide_eq_true hok] at CO
        clear hs hin hok
        generalize sumAll key 0 (L.take k) = s at HS
        generalize tagOf key a t v = d at HS CT
        go_wp2_with fail
        refine (CO.out _).mono ?_; rintro e w1 ⟨rfl, b1⟩
        have d0 := (b1.cell (p := ⟨b, off + k * 3, none⟩) (Nat.lt_of_lt_of_le hb HB.out.size)).trans c0
        have d1 := (b1.cell (p := ⟨b, off + k * 3 + 1, none⟩) (Nat.lt_of_lt_of_le hb HB.out.size)).trans c1
        have d2 := (b1.cell (p := ⟨b, off + k * 3 + 2, none⟩) (Nat.lt_of_lt_of_le hb HB.out.size)).trans c2
        have B1 := Lib.hid (HB.out.trans (b1.mono HB.out.size))
        clear b1 c0 c1 c2
        go_wp2_with fail
        refine (CT.out _).mono ?_; rintro e w2 ⟨rfl, b2⟩
        have B2 := Lib.hid (B1.out.trans (b2.mono B1.out.size))
        clear b2 d0 d1 d2
        go_wp2_with fail
        refine (specAdd_calls _ _ _).mono ?_; rintro e w' ⟨rfl, rfl⟩
        go_wp2_with fail
        go_roundw
        case rel => exact ⟨k + 1, by omega, by go_num, by rw [HS.out], B2.out⟩
        case measure => simp [intOf]; omega
      · rw [decide_eq_false hok] at CO
        have HX := Lib.hid (sumAll_bad (key := key) (s := 0) hin hok)
        clear hs hin hok
        go_wp2_with fail
        refine (CO.out _).mono ?_; rintro e w1 ⟨rfl, b1⟩
        have B1 := Lib.hid (HB.out.trans (b1.mono HB.out.size))
        clear b1 c0 c1 c2
        go_wp2_with fail
        go_ret
        exact ⟨by rw [HX.out]; rfl, B1.out⟩
    · have hk' : k = L.length := by omega
      clear hAr
      have HQ := Lib.hid (show L.take k = L by rw [hk', List.take_length])
      clear hk'
      go_wp2_with fail
      go_ret
      exact ⟨by rw [HQ.out]; rfl, HB.out⟩

/-- spec.SumOf. -/
theorem specSum_calls (key : Int) (A : Option Addr) (L : List Tri) (cap : Nat) (w : World) (hn : L.length < maxLen) (hA : Tris w w.heap.size A L) :
    Calls Try.prog 18 #[.int .i64 key, .slice A L.length cap] w fun e w' => e = .returned (.int .i64 (sumOf key L)) ∧ Below w.heap.size w w' := by
  unfold sumOf
  by_cases hk : 1 ≤ key ∧ key ≤ 1000000
  · rw [if_pos hk]; exact specSum_good key A L cap w hn hA hk.1 hk.2
  · rw [if_neg hk]
    refine (specSum_key key A L cap w (by omega)).mono ?_
    rintro e w' ⟨rfl, rfl⟩
    exact ⟨rfl, Below.refl _ _⟩
end Go.Proofs.Ythbkccagpggljaa.Mx

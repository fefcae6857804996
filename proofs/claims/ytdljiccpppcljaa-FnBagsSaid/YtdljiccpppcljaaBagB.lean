/- CONTRACTS OF impl.bagOf, takenFrom, SameBag. -/
import Derived.Test.YtdljiccpppcljaaBag
namespace Go.Proofs.Ytdljiccpppcljaa.Mx
open Go.ChangeShapes Go.WideShapes Go.ChangeAt Go.RowKit Go.Maps Go.ChangeMaps
set_option linter.unusedVariables false

theorem count_snoc_self (L : List Tri) (x : Tri) : (L ++ [x]).count x = L.count x + 1 := by simp
theorem count_snoc_other (L : List Tri) {x y : Tri} (h : y ≠ x) : (L ++ [x]).count y = L.count y := by
  rw [List.count_append, List.count_singleton]
  rw [if_neg (by simpa using Ne.symm h)]; rfl

set_option maxHeartbeats 1000000 in
theorem bagOf_calls (A : Option Addr) (L : List Tri) (cap : Nat) (w : World) (hn : L.length < maxLen) (hA : Tris w w.heap.size A L) (hI : TriI L) :
    Calls Try.prog 29 #[.slice A L.length cap] w fun e w' => e = .returned (.map (some w.heap.size)) ∧ Bag w' w.heap.size L.length L ∧ Below w.heap.size w w' := by
  have hm := hn
  unfold maxLen at hm
  have hmm := @run_makeMap Try.prog
  have HA := Lib.hid hA
  have HI := Lib.hid hI
  have HN := Lib.hid hn
  clear hA hI hn
  go_enter Try.func29, Try.ntmps29
  go_wp2_with fail
  clear hmm
  go_loopw [9] (fun i wr => ∃ k : Nat, k ≤ L.length ∧ i = .int .i64 k ∧ Below w.heap.size w wr ∧ Bag wr w.heap.size k (L.take k)) (fun i _ => L.length - (intOf i).toNat)
  case atStart => exact ⟨0, Nat.zero_le _, rfl, (Below.refl _ _).alloc (Nat.le_refl _) _, by rw [List.take_zero]; exact Bag.made w⟩
  case round =>
    obtain ⟨k, hk, rfl, hbel, hmap⟩ := hrel
    have HB := Lib.hid hbel
    have HM := Lib.hid hmap
    have hAr := HA.out.below hbel (Nat.le_refl _)
    clear hbel hmap
    by_cases hlt : k < L.length
    · obtain ⟨b, off, rfl, hb, c0, c1, c2⟩ := hAr k hlt
      have hlt' : (k : Int) < L.length := by omega
      have hk0 : (0 : Int) ≤ k := by omega
      have HS := Lib.hid (take_snoc hlt)
      have HT := Lib.hid (HI.out k hlt)
      clear hAr
      generalize L.getD k (0, 0, 0) = T at c0 c1 c2 HS HT
      obtain ⟨a, t, v⟩ := T
      simp only at c0 c1 c2
      have I1 := HT.out.1
      have I2 := HT.out.2.1
      have I3 := HT.out.2.2
      simp only at I1 I2 I3
      have HL := Lib.hid (show (L.take k).count (a, t, v) < k + 1 from Nat.lt_succ_of_le (Nat.le_trans List.count_le_length (by rw [List.length_take]; omega)))
      go_wp2_with fail
      have hcx := CellsAt.new wr 32 #[.int .i64 a, .int .i64 t, .int .i64 v]
      have hmx := HM.out.alloc (.cells #[.int .i64 a, .int .i64 t, .int .i64 v] 32)
      have BX := Lib.hid (HB.out.alloc HB.out.size (.cells #[.int .i64 a, .int .i64 t, .int .i64 v] 32))
      generalize wr.alloc (.cells #[.int .i64 a, .int .i64 t, .int .i64 v] 32) = wz at hcx hmx BX ⊢
      have d0 : wz.drew.cell? ⟨wr.heap.size, 0, none⟩ = some (.int .i64 a) := hcx.drew.cell 0
      have d1 : wz.drew.cell? ⟨wr.heap.size, 1, none⟩ = some (.int .i64 t) := hcx.drew.cell 1
      have d2 : wz.drew.cell? ⟨wr.heap.size, 2, none⟩ = some (.int .i64 v) := hcx.drew.cell 2
      clear hcx c0 c1 c2
      have hc1 : IntKind.i64.wrap (((L.take k).count (a, t, v) : Nat) + 1 : Int) = ((L.take k).count (a, t, v) : Nat) + 1 := IntWalk.i64_in _ (by have := HL.out; omega)
      have hE := hmx.drew.entry (L' := L.take k ++ [(a, t, v)]) (by unfold maxLen; omega) I1 I2 I3 (c' := (L.take k).count (a, t, v) + 1) (by have := HL.out; unfold maxLen; omega) (by have := HL.out; unfold maxLen; omega) (by simp) (count_snoc_self _ _) (fun y hy => count_snoc_other _ hy)
      rw [← HS.out] at hE
      push_cast at hE
      generalize (L.take k).count (a, t, v) = c at hE hc1 HL
      obtain ⟨st, w1, w2, r1, r2, r3, r4, g1, g2, hb2⟩ := hE
      have G2 := Lib.hid g2
      have B2 := Lib.hid hb2
      clear g1 g2 hb2 hmx I1 I2 I3
      go_region
      all_goals
        go_wp2_with fail
        go_roundw
        case rel => exact ⟨k + 1, by omega, by go_num, bgb BX.out.drew G2.out BX.out.drew.size (Nat.le_refl _), B2.out⟩
        case measure => simp [intOf]; omega
    · have hk' : k = L.length := by omega
      clear hAr
      have HQ := Lib.hid (show L.take k = L by rw [hk', List.take_length])
      clear hk'
      go_wp2_with fail
      go_ret
      exact ⟨rfl, by have := HM.out; rw [HQ.out] at this; exact this.mono hk, HB.out⟩

theorem count_erase_self' {L : List Tri} {x : Tri} : (L.erase x).count x = L.count x - 1 := List.count_erase_self
theorem count_erase_other (L : List Tri) {x y : Tri} (h : y ≠ x) : (L.erase x).count y = L.count y := List.count_erase_of_ne h

set_option maxHeartbeats 1000000 in
/-- None such lies in the bag. -/
theorem taken_no (b n : Nat) (L : List Tri) (a t v : Int) (w : World) (hB : Bag w b n L) (I1 : I64 a) (I2 : I64 t) (I3 : I64 v) (hx : (a, t, v) ∉ L) :
    Calls Try.prog 30 #[.map (some b), .agg #[.int .i64 a, .int .i64 t, .int .i64 v]] w fun e w' => e = .returned (.bool false) ∧ Below w.heap.size w w' := by
  have hl := (hB.alloc (.cells #[.int .i64 a, .int .i64 t, .int .i64 v] 32)).look I1 I2 I3
  rw [List.count_eq_zero.2 hx] at hl
  clear hB hx I1 I2 I3
  go_enter Try.func30, Try.ntmps30
  go_wp2_with fail
  go_ret
  exact ⟨rfl, (Below.refl _ _).alloc (Nat.le_refl _) _⟩

/-- Such a one is taken out: of what was there only the bag's block is written. -/
def Taken (w : World) (b n : Nat) (L : List Tri) (e : Ending) (w' : World) : Prop := e = .returned (.bool true) ∧ w.grownBy w' (some b) ∧ Bag w' b (n + 1) L

set_option maxHeartbeats 1000000 in
theorem taken_one (b n : Nat) (L : List Tri) (a t v : Int) (w : World) (hB : Bag w b n L) (I1 : I64 a) (I2 : I64 t) (I3 : I64 v) (hx : L.count (a, t, v) = 1) :
    Calls Try.prog 30 #[.map (some b), .agg #[.int .i64 a, .int .i64 t, .int .i64 v]] w (Taken w b n (L.erase (a, t, v))) := by
  have hl := (hB.alloc (.cells #[.int .i64 a, .int .i64 t, .int .i64 v] 32)).look I1 I2 I3
  rw [hx] at hl
  have HK := Lib.hid (tkey_of I1 I2 I3)
  obtain ⟨D, ho, hD⟩ := hB.alloc (.cells #[.int .i64 a, .int .i64 t, .int .i64 v] 32)
  have HO := Lib.hid ho
  have HD := Lib.hid (hD.del (L' := L.erase (a, t, v)) (ho.tidy triLaw) I1 I2 I3 (List.count_pos_iff.1 (by omega)) (List.count_eq_zero.1 (by rw [List.count_erase_self]; omega)) (fun y hy => count_erase_other L hy))
  clear hB hx I1 I2 I3 ho hD
  go_enter Try.func30, Try.ntmps30
  go_wp2_with (at_delete; refine wpList_delete_own _ rfl _ _ 55 32 rfl 3 triLaw Try.underlying55 _ b n D rfl HO.out _ _ rfl HK.out ?_; intro w1 hown1 hturn1)
  go_ret
  exact ⟨rfl, gb_trans (World.grownBy_alloc w _ _) hturn1.grown, D.del _, hown1.mono (by omega), HD.out⟩

set_option maxHeartbeats 1000000 in
theorem taken_more (b n : Nat) (L : List Tri) (a t v : Int) (w : World) (hB : Bag w b n L) (hn : n < maxLen) (hL : L.length < maxLen) (I1 : I64 a) (I2 : I64 t) (I3 : I64 v) (hx : 2 ≤ L.count (a, t, v)) :
    Calls Try.prog 30 #[.map (some b), .agg #[.int .i64 a, .int .i64 t, .int .i64 v]] w (Taken w b n (L.erase (a, t, v))) := by
  have hcl : L.count (a, t, v) < maxLen := Nat.lt_of_le_of_lt List.count_le_length hL
  have hcx := CellsAt.new w 32 #[.int .i64 a, .int .i64 t, .int .i64 v]
  have hmx := hB.alloc (.cells #[.int .i64 a, .int .i64 t, .int .i64 v] 32)
  have hl := hmx.look I1 I2 I3
  have hE := hmx.drew.entry (L' := L.erase (a, t, v)) hn I1 I2 I3 (c' := L.count (a, t, v) - 1) (by omega) hcl (List.count_pos_iff.1 (by rw [List.count_erase_self]; omega)) List.count_erase_self (fun y hy => count_erase_other L hy)
  rw [show ((L.count (a, t, v) - 1 : Nat) : Int) = (L.count (a, t, v) : Nat) - 1 by omega] at hE
  have hc1 : IntKind.i64.wrap ((L.count (a, t, v) : Nat) - 1 : Int) = (L.count (a, t, v) : Nat) - 1 := IntWalk.i64_in _ (by unfold maxLen at hcl; omega)
  have hg0 : w.grownBy (w.alloc (.cells #[.int .i64 a, .int .i64 t, .int .i64 v] 32)) (some b) := World.grownBy_alloc w _ _
  generalize L.count (a, t, v) = c at hE hc1 hl hx
  have x0 : ¬ (c : Int) = 0 := by omega
  have x1 : ¬ (c : Int) = 1 := by omega
  have d0 : (w.alloc (.cells #[.int .i64 a, .int .i64 t, .int .i64 v] 32)).drew.cell? ⟨w.heap.size, 0, none⟩ = some (.int .i64 a) := hcx.drew.cell 0
  have d1 : (w.alloc (.cells #[.int .i64 a, .int .i64 t, .int .i64 v] 32)).drew.cell? ⟨w.heap.size, 1, none⟩ = some (.int .i64 t) := hcx.drew.cell 1
  have d2 : (w.alloc (.cells #[.int .i64 a, .int .i64 t, .int .i64 v] 32)).drew.cell? ⟨w.heap.size, 2, none⟩ = some (.int .i64 v) := hcx.drew.cell 2
  obtain ⟨st, w1, w2, r1, r2, r3, r4, g1, g2, hb2⟩ := hE
  have G2 := Lib.hid (gb_trans (gb_drew hg0) g2)
  have B2 := Lib.hid hb2
  clear g1 g2 hb2 hmx I1 I2 I3 hcx hx hcl hg0 hB
  go_enter Try.func30, Try.ntmps30
  go_wp2_with fail
  generalize w.alloc (.cells #[.int .i64 a, .int .i64 t, .int .i64 v] 32) = wz at d0 d1 d2 r1 r2 ⊢
  go_region
  all_goals
    go_wp2_with fail
    go_ret
    exact ⟨rfl, G2.out, B2.out⟩

theorem taken_yes (b n : Nat) (L : List Tri) (a t v : Int) (w : World) (hB : Bag w b n L) (hn : n < maxLen) (hL : L.length < maxLen) (I1 : I64 a) (I2 : I64 t) (I3 : I64 v) (hx : (a, t, v) ∈ L) :
    Calls Try.prog 30 #[.map (some b), .agg #[.int .i64 a, .int .i64 t, .int .i64 v]] w (Taken w b n (L.erase (a, t, v))) := by
  have hp := List.count_pos_iff.2 hx
  by_cases h1 : L.count (a, t, v) = 1
  · exact taken_one b n L a t v w hB I1 I2 I3 h1
  · exact taken_more b n L a t v w hB hn hL I1 I2 I3 (by omega)
end Go.Proofs.Ytdljiccpppcljaa.Mx

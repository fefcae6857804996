/- CONTRACTS OF spec.l1Odd, l1Num, l1DrawKey, l1New: each answers some number of type int64 (l1New: a cursor over the bytes); nothing that was there is written but the cursor's own block. -/
import Derived.Test.YtcipjmenhoeekaaDrawA
namespace Go.Proofs.Ytcipjmenhoeekaa.Mx
open Go.ChangeShapes Go.WideShapes Go.ChangeAt Go.RowKit
set_option linter.unusedVariables false

theorem Cur.alloc {w : World} {g : Nat} {A : Option Addr} {l : List Int} {cap : Nat} (h : Cur w g A l cap) (o : Obj) : Cur (w.alloc o) g A l cap :=
  h.gb (gb_alloc (gb_refl w (some w.heap.size)) o) h.lt

set_option maxHeartbeats 400000 in
theorem odd_calls (g : Nat) (A : Option Addr) (l : List Int) (cap : Nat) (w : World) (hn : l.length ≤ maxLen) (hc : Cur w g A l cap) :
    Calls Try.prog 58 #[.pointer (some ⟨g, 0, none⟩)] w (Num (-9223372036854775808) 9223372036854775807 w g A l cap) := by
  have HC := Lib.hid hc
  have HN := Lib.hid hn
  have hlt := hc.lt
  clear hc hn
  go_enter Try.func58, Try.ntmps58
  go_wp2_with fail
  refine (below_calls g A l cap 10 _ HN.out (HC.out.alloc _) (by omega)).mono ?_; rintro e w1 ⟨x, rfl, ⟨x0, x1⟩, gb1, c1⟩
  have hblk := (CellsAt.new w _ _).grown gb1 (by intro e; injection e with e; omega)
  obtain ⟨k, rfl⟩ := Int.eq_ofNat_of_zero_le x0
  obtain ⟨v, hv, hcell⟩ := CellsAt.some64 [-1, 0, 1, 2147483648, -2147483648, 1099511627776, 4611686018427387904, -4611686018427387904, 9223372036854775807, -9223372036854775808] hblk
    (by repeat (first | exact I64s.nil | refine I64s.cons (by omega) (by omega) ?_)) k (by simp; omega)
  have G := Lib.hid (gb_trans (gb_alloc (gb_refl w (some g)) _) gb1)
  have C := Lib.hid c1
  clear gb1 c1 hblk
  go_wp2_with fail
  go_ret
  exact ⟨v, rfl, hv, G.out, C.out⟩

set_option maxHeartbeats 1000000 in
theorem num_calls (g : Nat) (A : Option Addr) (l : List Int) (cap : Nat) (m : Int) (w : World) (hn : l.length ≤ maxLen) (hc : Cur w g A l cap) (h0 : 0 ≤ m) (h1 : m ≤ 4611686018427387904) :
    Calls Try.prog 50 #[.pointer (some ⟨g, 0, none⟩), .int .i64 m] w (Num (-9223372036854775808) 9223372036854775807 w g A l cap) := by
  have HC := Lib.hid hc
  have HN := Lib.hid hn
  have hlt := hc.lt
  clear hc hn
  go_enter Try.func50, Try.ntmps50
  go_wp2_with fail
  refine (once_calls g A l cap 10 w HN.out HC.out (by omega)).mono ?_; rintro e w1 ⟨b1, rfl, gb1, c1⟩
  have G1 := Lib.hid gb1
  have C1 := Lib.hid c1
  clear gb1 c1
  rcases b1 with _ | _
  · go_wp2_with fail
    refine (once_calls g A l cap 2 w1 HN.out C1.out (by omega)).mono ?_; rintro e w2 ⟨b2, rfl, gb2, c2⟩
    have G2 := Lib.hid (gb_trans G1.out gb2)
    have C2 := Lib.hid c2
    clear gb2 c2
    rcases b2 with _ | _
    · go_wp2_with fail
      refine (below_calls g A l cap (m + 1) w2 HN.out C2.out (by omega)).mono ?_; rintro e w3 ⟨x, rfl, ⟨x0, x1⟩, gb3, c3⟩
      have G3 := Lib.hid (gb_trans G2.out gb3)
      have C3 := Lib.hid c3
      clear gb3 c3
      go_wp2_with fail
      go_ret
      exact ⟨x, rfl, ⟨by omega, by omega⟩, G3.out, C3.out⟩
    · go_wp2_with fail
      refine (min_calls m 4 w2).mono ?_; rintro e w' ⟨rfl, rfl⟩
      obtain ⟨q, hq⟩ : ∃ q, q = min m 4 := ⟨_, rfl⟩
      have q0 : 0 ≤ q := by omega
      have q1 : q ≤ 4 := by omega
      rw [← hq]
      clear hq
      go_wp2_with fail
      refine (below_calls g A l cap (q + 1) w2 HN.out C2.out (by omega)).mono ?_; rintro e w3 ⟨x, rfl, ⟨x0, x1⟩, gb3, c3⟩
      have G3 := Lib.hid (gb_trans G2.out gb3)
      have C3 := Lib.hid c3
      clear gb3 c3
      go_wp2_with fail
      go_ret
      exact ⟨x, rfl, ⟨by omega, by omega⟩, G3.out, C3.out⟩
  · go_wp2_with fail
    refine (odd_calls g A l cap w1 HN.out C1.out).mono ?_; rintro e w2 ⟨o, rfl, ⟨o0, o1⟩, gb2, c2⟩
    have hlt2 := c2.lt
    have G2 := Lib.hid (gb_trans G1.out gb2)
    have C2 := Lib.hid c2
    clear gb2 c2
    go_wp2_with fail
    refine (below_calls g A l cap 4 _ HN.out (C2.out.alloc _) (by omega)).mono ?_; rintro e w3 ⟨x, rfl, ⟨x0, x1⟩, gb3, c3⟩
    have hblk := (CellsAt.new w2 _ _).grown gb3 (by intro e; injection e with e; omega)
    obtain ⟨k, rfl⟩ := Int.eq_ofNat_of_zero_le x0
    obtain ⟨v, hv, hcell⟩ := CellsAt.some64 [-1, m, m + 1, o] hblk
      (by repeat (first | exact I64s.nil | refine I64s.cons (by omega) (by omega) ?_)) k (by simp; omega)
    have G3 := Lib.hid (gb_trans G2.out (gb_trans (gb_alloc (gb_refl w2 (some g)) _) gb3))
    have C3 := Lib.hid c3
    clear gb3 c3 hblk
    go_wp2_with fail
    go_ret
    exact ⟨v, rfl, hv, G3.out, C3.out⟩

theorem drawKey_calls (g : Nat) (A : Option Addr) (l : List Int) (cap : Nat) (w : World) (hn : l.length ≤ maxLen) (hc : Cur w g A l cap) :
    Calls Try.prog 29 #[.pointer (some ⟨g, 0, none⟩)] w (Num (-9223372036854775808) 9223372036854775807 w g A l cap) := by
  have HC := Lib.hid hc
  have HN := Lib.hid hn
  clear hc hn
  go_enter Try.func29, Try.ntmps29
  go_wp2_with fail
  refine (once_calls g A l cap 15 w HN.out HC.out (by omega)).mono ?_; rintro e w1 ⟨b1, rfl, gb1, c1⟩
  have G1 := Lib.hid gb1
  have C1 := Lib.hid c1
  clear gb1 c1
  rcases b1 with _ | _
  · go_wp2_with fail
    refine (below_calls g A l cap 500 w1 HN.out C1.out (by omega)).mono ?_; rintro e w3 ⟨x, rfl, ⟨x0, x1⟩, gb3, c3⟩
    have G3 := Lib.hid (gb_trans G1.out gb3)
    have C3 := Lib.hid c3
    clear gb3 c3
    go_wp2_with fail
    go_ret
    exact ⟨_, rfl, ⟨by omega, by omega⟩, G3.out, C3.out⟩
  · go_wp2_with fail
    refine (num_calls g A l cap 1000000 w1 HN.out C1.out (by omega) (by omega)).mono ?_; rintro e w3 ⟨x, rfl, ⟨x0, x1⟩, gb3, c3⟩
    have G3 := Lib.hid (gb_trans G1.out gb3)
    have C3 := Lib.hid c3
    clear gb3 c3
    go_wp2_with fail
    go_ret
    exact ⟨_, rfl, ⟨by omega, by omega⟩, G3.out, C3.out⟩

set_option maxHeartbeats 400000 in
theorem new_calls (A : Option Addr) (l : List Int) (cap : Nat) (w : World) (hn : l.length ≤ maxLen) (hA : Ints w .u8 w.heap.size A l) :
    Calls Try.prog 28 #[.slice A l.length cap] w fun e w' => e = .returned (.pointer (some ⟨w.heap.size, 0, none⟩)) ∧ Below w.heap.size w w' ∧ Cur w' w.heap.size A l cap := by
  unfold maxLen at hn
  have HA := Lib.hid hA
  clear hA
  go_enter Try.func28, Try.ntmps28
  go_wp2_with fail
  go_loop [3, 4] (fun h i => ∃ k : Nat, k ≤ l.length ∧ i = .int .i64 k ∧ ∃ H, h = .int .i64 H) (fun _ i => l.length - (intOf i).toNat)
  case atStart => exact ⟨0, Nat.zero_le _, rfl, _, rfl⟩
  case round =>
    obtain ⟨k, hk, rfl, H, rfl⟩ := hrel
    by_cases hlt : k < l.length
    · obtain ⟨b, off, rfl, hb, hc⟩ := HA.out k hlt
      generalize l.getD k 0 = v at hc
      go_wp2_with fail
      go_round
      case rel => exact ⟨k + 1, by omega, by go_num, _, rfl⟩
      case measure => simp [intOf]; omega
    · go_wp2_with fail
      go_ret
      refine ⟨rfl, (Below.refl _ _).alloc (Nat.le_refl _) _, HA.out.below ((Below.refl _ _).alloc (Nat.le_refl _) _) (Nat.le_refl _), 0, H, Nat.zero_le _, ?_⟩
      exact CellsAt.new w _ _
end Go.Proofs.Ytcipjmenhoeekaa.Mx

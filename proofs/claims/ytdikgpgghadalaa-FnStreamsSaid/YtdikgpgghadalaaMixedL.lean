/- THE WALK OF laws.FnMixed: it returns true at every code, and writes nothing that was there. -/
import Derived.Test.YtdikgpgghadalaaMixL
import Derived.Test.YtdikgpgghadalaaDrawC
import Derived.Test.YtdikgpgghadalaaDrawD
import Derived.Test.YtdikgpgghadalaaDice
import Derived.Test.YtdikgpgghadalaaMixNum
namespace Go.Proofs.Ytdikgpgghadalaa.Mx
open Go.ChangeShapes Go.WideShapes Go.ChangeAt Go.RowKit
set_option linter.unusedVariables false

theorem addOf_comm (a b : Int) : addOf b a = addOf a b := by
  unfold addOf
  by_cases h : (0 ≤ a ∧ a ≤ 4611686018427387903) ∧ 0 ≤ b ∧ b ≤ 4611686018427387903
  · rw [if_pos h, if_pos ⟨h.2, h.1⟩, Int.add_comm]
  · rw [if_neg h, if_neg (fun h' => h ⟨h'.2, h'.1⟩)]
theorem add_swap (a b : Int) (w : World) : Calls Try.prog 22 #[.int .i64 b, .int .i64 a] w fun e w' => e = .returned (.int .i64 (addOf a b)) ∧ w = w' := by
  rw [← addOf_comm]; exact add_calls b a w

theorem big_no (A : Option Addr) (n cap : Nat) (w : World) (h : n ≤ 4096) :
    Calls Try.prog 10 #[.slice A n cap] w fun e w' => e = .returned (.bool false) ∧ w = w' := by
  have h' : ¬ (4096 : Int) < n := by omega
  go_enter Try.func10, Try.ntmps10
  go_wp2
  go_ret
  exact ⟨by simp, rfl⟩
theorem big_yes (A : Option Addr) (n cap : Nat) (w : World) (h : 4096 < n) :
    Calls Try.prog 10 #[.slice A n cap] w fun e w' => e = .returned (.bool true) ∧ w = w' := by
  have h' : (4096 : Int) < n := by omega
  go_enter Try.func10, Try.ntmps10
  go_wp2
  go_ret
  exact ⟨by simp, rfl⟩

/-- A list of two, of one, laid by the call itself. -/
theorem i64s_two {x y : Int} (a : -9223372036854775808 ≤ x ∧ x ≤ 9223372036854775807) (b : -9223372036854775808 ≤ y ∧ y ≤ 9223372036854775807) : I64s [x, y] := I64s.cons a.1 a.2 (I64s.cons b.1 b.2 I64s.nil)
theorem i64s_one {x : Int} (a : -9223372036854775808 ≤ x ∧ x ≤ 9223372036854775807) : I64s [x] := I64s.cons a.1 a.2 I64s.nil
theorem mix_two (key x y : Int) (g : Nat) (w : World) (hg : w.heap.size = g) (a : -9223372036854775808 ≤ x ∧ x ≤ 9223372036854775807) (b : -9223372036854775808 ≤ y ∧ y ≤ 9223372036854775807) :
    Calls Try.prog 23 #[.int .i64 key, .slice (some ⟨g, 0, none⟩) 2 2] (w.alloc (.cells #[.int .i64 x, .int .i64 y] 2)) fun e w' => e = .returned (.int .i64 (mixOf key [x, y])) ∧ w.alloc (.cells #[.int .i64 x, .int .i64 y] 2) = w' := by
  subst hg
  exact mix_calls key (some ⟨w.heap.size, 0, none⟩) [x, y] 2 (w.heap.size + 1) _ (by simp [maxLen]) (CellsAt.reads [x, y] (CellsAt.new w 2 _)) (i64s_two a b)
theorem mix_one (key x : Int) (g : Nat) (w : World) (hg : w.heap.size = g) (a : -9223372036854775808 ≤ x ∧ x ≤ 9223372036854775807) :
    Calls Try.prog 23 #[.int .i64 key, .slice (some ⟨g, 0, none⟩) 1 1] (w.alloc (.cells #[.int .i64 x] 2)) fun e w' => e = .returned (.int .i64 (mixOf key [x])) ∧ w.alloc (.cells #[.int .i64 x] 2) = w' := by
  subst hg
  exact mix_calls key (some ⟨w.heap.size, 0, none⟩) [x] 1 (w.heap.size + 1) _ (by simp [maxLen]) (CellsAt.reads [x] (CellsAt.new w 2 _)) (i64s_one a)

set_option maxHeartbeats 2000000 in
theorem mixedLaw_calls (A : Option Addr) (l : List Int) (cap : Nat) (w : World) (hn : l.length ≤ maxLen) (hA : Ints w .u8 w.heap.size A l) (h8 : ∀ i, i < l.length → 0 ≤ l.getD i 0 ∧ l.getD i 0 ≤ 255) :
    Calls Try.prog 4 #[.slice A l.length cap] w fun e w' => e = .returned (.bool true) ∧ Below w.heap.size w w' := by
  by_cases hs : 4096 < l.length
  · go_enter Try.func4, Try.ntmps4
    go_wp2_with fail
    refine (big_yes A l.length cap w hs).mono ?_; rintro e w' ⟨rfl, rfl⟩
    go_wp2_with fail
    go_ret
    exact ⟨rfl, Below.refl _ _⟩
  · have hs' : l.length ≤ 4096 := by omega
    clear hs
    have HN := Lib.hid hn
    have HA := Lib.hid hA
    have H8 := Lib.hid h8
    clear hn hA h8
    go_enter Try.func4, Try.ntmps4
    go_wp2_with fail
    refine (big_no A l.length cap w hs').mono ?_; rintro e w' ⟨rfl, rfl⟩
    go_wp2_with fail
    refine (drawMix_calls A l cap w HN.out HA.out).mono ?_; rintro e w1 ⟨key, A1, zs, c1, rfl, b1, r1, i1, n1⟩
    have s1 := b1.size
    have B1 := Lib.hid b1
    have R1 := Lib.hid r1
    have I1 := Lib.hid i1
    clear b1 r1 i1
    go_wp2_with fail
    refine (drawAdd_calls A l cap w1 HN.out ((HA.out.below B1.out (Nat.le_refl _)).more s1)).mono ?_; rintro e w2 ⟨a, b, rfl, b2⟩
    have s2 := b2.size
    have R2 := Lib.hid ((R1.out.below b2 (Nat.le_refl _)).more s2)
    have B2 := Lib.hid (B1.out.trans (b2.mono s1))
    clear b2 B1 R1
    have s3 := B2.out.size
    go_wp2_with fail
    refine (roll_calls A l cap 2 w2 HN.out ((HA.out.below B2.out (Nat.le_refl _)).more s3)).mono ?_; rintro e w3 ⟨rfl, b3, d3⟩
    have R3 := Lib.hid (R2.out.below b3 (Nat.le_refl _))
    have B3 := Lib.hid (B2.out.trans (b3.mono s3))
    have D3 := Lib.hid d3
    clear b3 d3
    go_wp2_with fail
    refine (throw_calls w2.heap.size A l cap 1000 w3 HN.out D3.out H8.out (by omega)).mono ?_; rintro e w4 ⟨x, rfl, ⟨x0, x1⟩, g4, d4⟩
    have R4 := Lib.hid (R3.out.gb g4 (Nat.le_of_lt D3.out.lt) (Nat.le_refl _))
    have B4 := Lib.hid (bgb B3.out g4 B3.out.size s3)
    have D4 := Lib.hid d4
    clear g4 d4
    go_wp2_with fail
    refine (throw_calls w2.heap.size A l cap 1000 w4 HN.out D4.out H8.out (by omega)).mono ?_; rintro e w5 ⟨y, rfl, ⟨y0, y1⟩, g5, d5⟩
    have R5 := Lib.hid (R4.out.gb g5 (Nat.le_of_lt D4.out.lt) (Nat.le_refl _))
    have B5 := Lib.hid (bgb B4.out g5 B4.out.size s3)
    have D5 := Lib.hid d5
    clear g5 d5
    go_wp2_with fail
    refine (throw_calls w2.heap.size A l cap 1000 w5 HN.out D5.out H8.out (by omega)).mono ?_; rintro e w6 ⟨k, rfl, ⟨k0, k1⟩, g6, d6⟩
    have R6 := Lib.hid (R5.out.gb g6 (Nat.le_of_lt D5.out.lt) (Nat.le_refl _))
    have B6 := Lib.hid (bgb B5.out g6 B5.out.size s3)
    clear g6 d6 D3 D4 D5 R3 R4 R5 B3 B4 B5
    have f1 := mix_order k0 (by omega) x0 (by omega) y0 (by omega)
    have f2 := mix_small k0 (by omega) x0 (by omega)
    have f3 := mix_keys k0 (by omega) x0 (by omega)
    have C1 := Lib.hid (fun g w hg => mix_two (1 + k) x (x + 1 + y) g w hg (by omega) (by omega))
    have C2 := Lib.hid (fun g w hg => mix_two (1 + k) (x + 1 + y) x g w hg (by omega) (by omega))
    have C3 := Lib.hid (fun g w hg => mix_one (1 + k) x g w hg (by omega))
    have C4 := Lib.hid (fun g w hg => mix_one (1 + k + 1) x g w hg (by omega))
    generalize mixOf (1 + k) [x, x + 1 + y] = m1 at f1 C1
    generalize mixOf (1 + k) [x + 1 + y, x] = m2 at f1 C2
    generalize mixOf (1 + k) [x] = m3 at f2 f3 C3
    generalize mixOf (1 + k + 1) [x] = m4 at f3 C4
    have F1 : (m1 == m2) = false := by simpa using f1
    have F3 : (m3 == m4) = false := by simpa using f3
    have E1 : (m1 != m2) = true := by simpa using f1
    have E3 : (m3 != m4) = true := by simpa using f3
    clear f1 f3
    have M1 := Lib.hid (mix_calls key A1 zs c1 w2.heap.size w6 (by unfold maxLen; omega) R6.out I1.out)
    have M2 := Lib.hid (specMix_calls key A1 zs c1 w2.heap.size w6 (by unfold maxLen; omega) R6.out I1.out)
    generalize mixOf key zs = m5 at M1 M2
    go_wp2_with fail
    refine (add_calls a b w6).mono ?_; rintro e w' ⟨rfl, rfl⟩
    have P1 := Lib.hid (fun w => specAdd_calls a b w)
    have P2 := Lib.hid (fun w => add_swap a b w)
    generalize addOf a b = s at P1 P2
    go_wp2_with fail
    refine M1.out.mono ?_; rintro e w' ⟨rfl, rfl⟩
    go_wp2_with fail
    refine M2.out.mono ?_; rintro e w' ⟨rfl, rfl⟩
    go_wp2_with fail
    refine (P1.out w6).mono ?_; rintro e w' ⟨rfl, rfl⟩
    go_wp2_with fail
    refine (P2.out w6).mono ?_; rintro e w' ⟨rfl, rfl⟩
    go_wp2_with fail
    refine (C1.out _ w6 rfl).mono ?_; rintro e w7 ⟨rfl, h7⟩
    subst h7
    go_wp2_with fail
    refine (C2.out _ _ ?_).mono ?_; (first | rfl | simp); rintro e w7 ⟨rfl, h7⟩
    subst h7
    go_wp2_with fail
    refine (C3.out _ _ ?_).mono ?_; (first | rfl | simp); rintro e w7 ⟨rfl, h7⟩
    subst h7
    go_wp2_with fail
    refine (C3.out _ _ ?_).mono ?_; (first | rfl | simp); rintro e w7 ⟨rfl, h7⟩
    subst h7
    go_wp2_with fail
    refine (C4.out _ _ ?_).mono ?_; (first | rfl | simp); rintro e w7 ⟨rfl, h7⟩
    subst h7
    go_wp2_with fail
    go_ret
    refine ⟨rfl, ?_⟩
    have z := B6.out.size
    exact ((((B6.out.alloc z _).alloc (by simp; omega) _).alloc (by simp; omega) _).alloc (by simp; omega) _).alloc (by simp; omega) _
end Go.Proofs.Ytdikgpgghadalaa.Mx

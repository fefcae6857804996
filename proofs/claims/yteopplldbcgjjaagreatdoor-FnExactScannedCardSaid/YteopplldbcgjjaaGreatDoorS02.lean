import Derived.Test.YteopplldbcgjjaaGreatDoorS01
import Derived.Outline
import Derived.Test.YteopplldbcgjjaaGreatDoorRows
import Derived.Deep.OwnRows
import Derived.Lib.Hide
import Derived.Deep.QuietTactic
import Derived.BigQuiet
import Derived.Deep.RegionHeld3
namespace Go.Proofs.YteopplldbcgjjaaGreatDoor.Mx
open Go.ChangeShapes Go.WideShapes Go.ChangeAt Go.RowKit
set_option linter.unusedVariables false
theorem l1Key_yes (s : Int) (w : World) (h0 : 1 ≤ s) (h1 : s ≤ 1000000) :
    Calls Tryz.prog 79 #[.int .i64 s] w fun e w' => e = .returned (.bool true) ∧ w = w' := by
  go_enter Tryz.func79, Tryz.ntmps79
  go_wp2_with (go_at_call 76; refine (l1In_yes _ _ _ _ h0 h1).mono ?_; rintro e w' ⟨rfl, rfl⟩)
  go_ret
  exact ⟨rfl, rfl⟩
theorem l1Key_no (s : Int) (w : World) (h : s < 1 ∨ 1000000 < s) :
    Calls Tryz.prog 79 #[.int .i64 s] w fun e w' => e = .returned (.bool false) ∧ w = w' := by
  go_enter Tryz.func79, Tryz.ntmps79
  go_wp2_with (go_at_call 76; refine (l1In_no _ _ _ _ h).mono ?_; rintro e w' ⟨rfl, rfl⟩)
  go_ret
  exact ⟨rfl, rfl⟩
theorem specMix_fine (key : Int) (A : Option Addr) (l : List Int) (cap B : Nat) (w : World) (hn : l.length ≤ maxLen) (hA : Ints w .i64 B A l) (hi : I64s l) (hf : Fine l) (k0 : 1 ≤ key) (k1 : key ≤ 1000000) :
    Calls Tryz.prog 99 #[.int .i64 key, .slice A l.length cap] w fun e w' => e = .returned (.int .i64 (mixOf key l)) ∧ w = w' := by
  unfold maxLen at hn
  rw [mixOf_yes k0 k1 hf]
  have FX := roll_bd 131 2147483647 (7 + key) l (by omega) (by omega) (by omega)
  have FY := roll_bd 137 2147483629 (11 + 2 * key) l (by omega) (by omega) (by omega)
  generalize hx : roll 131 2147483647 (7 + key) l = x at FX
  generalize hy : roll 137 2147483629 (11 + 2 * key) l = y at FY
  have HX := Lib.hid hx
  have HY := Lib.hid hy
  clear hx hy
  obtain ⟨fx0, fx1⟩ := FX
  obtain ⟨fy0, fy1⟩ := FY
  go_enter Tryz.func99, Tryz.ntmps99
  go_wp2_with (go_at_call 79; refine (l1Key_yes _ _ k0 k1).mono ?_; rintro e w' ⟨rfl, rfl⟩)
  go_loop [5, 6, 7] (fun x y i => ∃ k : Nat, k ≤ l.length ∧ i = .int .i64 k ∧ x = .int .i64 (roll 131 2147483647 (7 + key) (l.take k)) ∧ y = .int .i64 (roll 137 2147483629 (11 + 2 * key) (l.take k))) (fun _ _ i => l.length - (intOf i).toNat)
  case atStart => exact ⟨0, Nat.zero_le _, rfl, rfl, rfl⟩
  case round =>
    obtain ⟨k, hk, rfl, rfl, rfl⟩ := hrel
    have X := roll_bd 131 2147483647 (7 + key) (l.take k) (by omega) (by omega) (by omega)
    have Y := roll_bd 137 2147483629 (11 + 2 * key) (l.take k) (by omega) (by omega) (by omega)
    by_cases hlt : k < l.length
    · obtain ⟨b, off, rfl, hb, hc⟩ := hA k hlt
      have hv0 := hf k hlt
      have hv1 := (hi k hlt).2
      have HS := Lib.hid (roll_take 131 2147483647 (7 + key) l k hlt)
      have HT := Lib.hid (roll_take 137 2147483629 (11 + 2 * key) l k hlt)
      clear hA hf hi
      generalize l.getD k 0 = v at hc hv0 hv1 HS HT
      generalize roll 131 2147483647 (7 + key) (l.take k) = x at X HS
      generalize roll 137 2147483629 (11 + 2 * key) (l.take k) = y at Y HT
      obtain ⟨x0, x1⟩ := X
      obtain ⟨y0, y1⟩ := Y
      go_wp2
      go_round
      case rel => exact ⟨k + 1, by omega, by go_num, by rw [HS.out]; go_num, by rw [HT.out]; go_num⟩
      case measure => simp [intOf]; omega
    · have hk' : k = l.length := by omega
      clear hA hf hi
      have HR : roll 131 2147483647 (7 + key) (l.take k) = x := by rw [hk', roll_all]; exact HX.out
      have HQ : roll 137 2147483629 (11 + 2 * key) (l.take k) = y := by rw [hk', roll_all]; exact HY.out
      rw [HR, HQ]
      clear HR HQ X Y
      go_wp2
      go_ret
      exact ⟨rfl, rfl⟩
theorem specMix_neg (key : Int) (A : Option Addr) (l : List Int) (cap B : Nat) (w : World) (hn : l.length ≤ maxLen) (hA : Ints w .i64 B A l) (hf : ∃ i, i < l.length ∧ l.getD i 0 < 0) (k0 : 1 ≤ key) (k1 : key ≤ 1000000) :
    Calls Tryz.prog 99 #[.int .i64 key, .slice A l.length cap] w fun e w' => e = .returned (.int .i64 (-1)) ∧ w = w' := by
  unfold maxLen at hn
  obtain ⟨j, hj, hjv⟩ := hf
  go_enter Tryz.func99, Tryz.ntmps99
  go_wp2_with (go_at_call 79; refine (l1Key_yes _ _ k0 k1).mono ?_; rintro e w' ⟨rfl, rfl⟩)
  go_loop [5, 6, 7] (fun x y i => ∃ k : Nat, k ≤ j ∧ i = .int .i64 k ∧ (∃ X, x = .int .i64 X) ∧ (∃ Y, y = .int .i64 Y)) (fun _ _ i => l.length - (intOf i).toNat)
  case atStart => exact ⟨0, Nat.zero_le _, rfl, ⟨_, rfl⟩, ⟨_, rfl⟩⟩
  case round =>
    obtain ⟨k, hk, rfl, ⟨X, rfl⟩, ⟨Y, rfl⟩⟩ := hrel
    have hlt : k < l.length := by omega
    obtain ⟨b, off, rfl, hb, hc⟩ := hA k hlt
    clear hA
    by_cases hkj : k = j
    · subst hkj
      generalize l.getD k 0 = v at hc hjv
      go_wp2
      go_ret
      exact ⟨rfl, rfl⟩
    · have hkj' : k < j := by omega
      clear hkj hjv
      generalize l.getD k 0 = v at hc
      by_cases hv : v < 0
      · go_wp2
        go_ret
        exact ⟨rfl, rfl⟩
      · go_wp2
        go_round
        case rel => exact ⟨k + 1, by omega, by go_num, ⟨_, rfl⟩, ⟨_, rfl⟩⟩
        case measure => simp [intOf]; omega
theorem specMix_calls (key : Int) (A : Option Addr) (l : List Int) (cap B : Nat) (w : World) (hn : l.length ≤ maxLen) (hA : Ints w .i64 B A l) (hi : I64s l) :
    Calls Tryz.prog 99 #[.int .i64 key, .slice A l.length cap] w fun e w' => e = .returned (.int .i64 (mixOf key l)) ∧ w = w' := by
  by_cases hk : 1 ≤ key ∧ key ≤ 1000000
  · obtain ⟨k0, k1⟩ := hk
    by_cases hf : Fine l
    · exact specMix_fine key A l cap B w hn hA hi hf k0 k1
    · rw [mixOf_neg hf]
      exact specMix_neg key A l cap B w hn hA (not_fine hf) k0 k1
  · have hk' : key < 1 ∨ 1000000 < key := by omega
    rw [mixOf_key hk']
    clear hA hi hn hk
    go_enter Tryz.func99, Tryz.ntmps99
    go_wp2_with (go_at_call 79; refine (l1Key_no _ _ hk').mono ?_; rintro e w' ⟨rfl, rfl⟩)
    go_ret
    exact ⟨rfl, rfl⟩
end Go.Proofs.YteopplldbcgjjaaGreatDoor.Mx
namespace Go.Proofs.YteopplldbcgjjaaGreatDoor.Mx
open Go.ChangeShapes Go.WideShapes Go.ChangeAt Go.RowKit
set_option linter.unusedVariables false
def I64 (x : Int) : Prop := -9223372036854775808 ≤ x ∧ x ≤ 9223372036854775807
noncomputable def streamOf (key at_ time : Int) : Int := if mixOf key [1, at_, time] < 0 then -1 else mixOf key [1, at_, time] % 10007
def isVal (v : Int) : Prop := 0 ≤ v ∧ v ≤ 10006
theorem i64s_three {x y z : Int} (a : I64 x) (b : I64 y) (c : I64 z) : I64s [x, y, z] := I64s.cons a.1 a.2 (I64s.cons b.1 b.2 (I64s.cons c.1 c.2 I64s.nil))
theorem mixOf_bd (key : Int) (l : List Int) : -1 ≤ mixOf key l ∧ mixOf key l ≤ 4611686018427387903 := by
  by_cases hk : 1 ≤ key ∧ key ≤ 1000000
  · by_cases hf : Fine l
    · rw [mixOf_yes hk.1 hk.2 hf]
      have X := roll_bd 131 2147483647 (7 + key) l (by omega) (by omega) (by omega)
      have Y := roll_bd 137 2147483629 (11 + 2 * key) l (by omega) (by omega) (by omega)
      omega
    · rw [mixOf_neg hf]; omega
  · rw [mixOf_key (by omega)]; omega
theorem mixOf_nat {key : Int} {l : List Int} (h0 : 1 ≤ key) (h1 : key ≤ 1000000) (hf : Fine l) : 0 ≤ mixOf key l := by
  rw [mixOf_yes h0 h1 hf]
  have X := roll_bd 131 2147483647 (7 + key) l (by omega) (by omega) (by omega)
  have Y := roll_bd 137 2147483629 (11 + 2 * key) l (by omega) (by omega) (by omega)
  omega
theorem streamOf_bd (key at_ time : Int) : -1 ≤ streamOf key at_ time ∧ streamOf key at_ time ≤ 10006 := by
  unfold streamOf
  split <;> omega
theorem fine_three {x y z : Int} (hx : 0 ≤ x) (hy : 0 ≤ y) (hz : 0 ≤ z) : Fine [x, y, z] := by
  intro i hi
  match i, hi with
  | 0, _ => exact hx
  | 1, _ => exact hy
  | 2, _ => exact hz
theorem streamOf_nat {key at_ time : Int} (h0 : 1 ≤ key) (h1 : key ≤ 1000000) (ha : 0 ≤ at_) (ht : 0 ≤ time) : 0 ≤ streamOf key at_ time := by
  have := mixOf_nat h0 h1 (fine_three (x := 1) (by omega) ha ht)
  unfold streamOf
  rw [if_neg (by omega)]; omega
theorem isValue_yes (s : Int) (w : World) (h : isVal s) :
    Calls Tryz.prog 69 #[.int .i64 s] w fun e w' => e = .returned (.bool true) ∧ w = w' := by
  obtain ⟨h0, h1⟩ := h
  have h2 : s < 10007 := by omega
  go_enter Tryz.func69, Tryz.ntmps69
  go_wp2
  go_ret
  exact ⟨rfl, rfl⟩
theorem isValue_no (s : Int) (w : World) (h : ¬ isVal s) :
    Calls Tryz.prog 69 #[.int .i64 s] w fun e w' => e = .returned (.bool false) ∧ w = w' := by
  unfold isVal at h
  by_cases h0 : 0 ≤ s
  · have h2 : ¬ s < 10007 := by omega
    clear h
    go_enter Tryz.func69, Tryz.ntmps69
    go_wp2
    go_ret
    exact ⟨rfl, rfl⟩
  · clear h
    go_enter Tryz.func69, Tryz.ntmps69
    go_wp2
    go_ret
    exact ⟨rfl, rfl⟩
theorem l2Value_yes (s : Int) (w : World) (h : isVal s) :
    Calls Tryz.prog 42 #[.int .i64 s] w fun e w' => e = .returned (.bool true) ∧ w = w' := by
  obtain ⟨h0, h1⟩ := h
  go_enter Tryz.func42, Tryz.ntmps42
  go_wp2_with (go_at_call 76; refine (l1In_yes _ _ _ _ h0 h1).mono ?_; rintro e w' ⟨rfl, rfl⟩)
  go_ret
  exact ⟨rfl, rfl⟩
theorem l2Value_no (s : Int) (w : World) (h : ¬ isVal s) :
    Calls Tryz.prog 42 #[.int .i64 s] w fun e w' => e = .returned (.bool false) ∧ w = w' := by
  unfold isVal at h
  have h' : s < 0 ∨ 10006 < s := by omega
  clear h
  go_enter Tryz.func42, Tryz.ntmps42
  go_wp2_with (go_at_call 76; refine (l1In_no _ _ _ _ h').mono ?_; rintro e w' ⟨rfl, rfl⟩)
  go_ret
  exact ⟨rfl, rfl⟩
theorem mixed_three (key x y z : Int) (g : Nat) (w : World) (hg : w.heap.size = g) (a : I64 x) (b : I64 y) (c : I64 z) :
    Calls Tryz.prog 121 #[.int .i64 key, .slice (some ⟨g, 0, none⟩) 3 3] (w.alloc (.cells #[.int .i64 x, .int .i64 y, .int .i64 z] 2)) fun e w' => e = .returned (.int .i64 (mixOf key [x, y, z])) ∧ w.alloc (.cells #[.int .i64 x, .int .i64 y, .int .i64 z] 2) = w' := by
  subst hg
  exact mixed_calls key (some ⟨w.heap.size, 0, none⟩) [x, y, z] 3 (w.heap.size + 1) _ (by simp [maxLen]) (CellsAt.reads [x, y, z] (CellsAt.new w 2 _)) (i64s_three a b c)
theorem specMix_three (key x y z : Int) (g : Nat) (w : World) (hg : w.heap.size = g) (a : I64 x) (b : I64 y) (c : I64 z) :
    Calls Tryz.prog 99 #[.int .i64 key, .slice (some ⟨g, 0, none⟩) 3 3] (w.alloc (.cells #[.int .i64 x, .int .i64 y, .int .i64 z] 2)) fun e w' => e = .returned (.int .i64 (mixOf key [x, y, z])) ∧ w.alloc (.cells #[.int .i64 x, .int .i64 y, .int .i64 z] 2) = w' := by
  subst hg
  exact specMix_calls key (some ⟨w.heap.size, 0, none⟩) [x, y, z] 3 (w.heap.size + 1) _ (by simp [maxLen]) (CellsAt.reads [x, y, z] (CellsAt.new w 2 _)) (i64s_three a b c)
theorem one_i64 : I64 1 := ⟨by omega, by omega⟩
theorem stream_calls (key at_ time : Int) (w : World) (ha : I64 at_) (ht : I64 time) :
    Calls Tryz.prog 88 #[.int .i64 key, .int .i64 at_, .int .i64 time] w fun e w' => e = .returned (.int .i64 (streamOf key at_ time)) ∧ Below w.heap.size w w' := by
  have C := Lib.hid (fun g w hg => mixed_three key 1 at_ time g w hg one_i64 ha ht)
  have M := mixOf_bd key [1, at_, time]
  unfold streamOf
  clear ha ht
  generalize mixOf key [1, at_, time] = m at C M
  obtain ⟨m0, m1⟩ := M
  by_cases hm : m < 0
  · rw [if_pos hm]
    go_enter Tryz.func88, Tryz.ntmps88
    go_wp2_with fail
    refine (C.out _ _ ?_).mono ?_; (first | rfl | simp); rintro e w7 ⟨rfl, h7⟩
    subst h7
    go_wp2_with fail
    go_ret
    exact ⟨rfl, (Below.refl _ _).alloc (Nat.le_refl _) _⟩
  · rw [if_neg hm]
    go_enter Tryz.func88, Tryz.ntmps88
    go_wp2_with fail
    refine (C.out _ _ ?_).mono ?_; (first | rfl | simp); rintro e w7 ⟨rfl, h7⟩
    subst h7
    go_wp2_with fail
    go_ret
    exact ⟨rfl, (Below.refl _ _).alloc (Nat.le_refl _) _⟩
theorem specStream_calls (key at_ time : Int) (w : World) (ha : I64 at_) (ht : I64 time) :
    Calls Tryz.prog 117 #[.int .i64 key, .int .i64 at_, .int .i64 time] w fun e w' => e = .returned (.int .i64 (streamOf key at_ time)) ∧ Below w.heap.size w w' := by
  have C := Lib.hid (fun g w hg => specMix_three key 1 at_ time g w hg one_i64 ha ht)
  have M := mixOf_bd key [1, at_, time]
  unfold streamOf
  clear ha ht
  generalize mixOf key [1, at_, time] = m at C M
  obtain ⟨m0, m1⟩ := M
  by_cases hm : m < 0
  · rw [if_pos hm]
    go_enter Tryz.func117, Tryz.ntmps117
    go_wp2_with fail
    refine (C.out _ _ ?_).mono ?_; (first | rfl | simp); rintro e w7 ⟨rfl, h7⟩
    subst h7
    go_wp2_with fail
    go_ret
    exact ⟨rfl, (Below.refl _ _).alloc (Nat.le_refl _) _⟩
  · rw [if_neg hm]
    go_enter Tryz.func117, Tryz.ntmps117
    go_wp2_with fail
    refine (C.out _ _ ?_).mono ?_; (first | rfl | simp); rintro e w7 ⟨rfl, h7⟩
    subst h7
    go_wp2_with fail
    go_ret
    exact ⟨rfl, (Below.refl _ _).alloc (Nat.le_refl _) _⟩
end Go.Proofs.YteopplldbcgjjaaGreatDoor.Mx
namespace Go.Proofs.YteopplldbcgjjaaGreatDoor.Mx
open Go.ChangeShapes Go.WideShapes Go.ChangeAt Go.RowKit
set_option linter.unusedVariables false
theorem isNoCount_no (c : Int) (w : World) (h0 : 1 ≤ c) (h1 : c ≤ 8) :
    Calls Tryz.prog 126 #[.int .i64 c] w fun e w' => e = .returned (.bool false) ∧ w = w' := by
  have h2 : ¬ c < 1 := by omega
  have h3 : ¬ 8 < c := by omega
  clear h0 h1
  go_enter Tryz.func126, Tryz.ntmps126
  go_wp2
  go_ret
  exact ⟨rfl, rfl⟩
theorem isNoCount_yes (c : Int) (w : World) (h : c < 1 ∨ 8 < c) :
    Calls Tryz.prog 126 #[.int .i64 c] w fun e w' => e = .returned (.bool true) ∧ w = w' := by
  by_cases h0 : c < 1
  · clear h
    go_enter Tryz.func126, Tryz.ntmps126
    go_wp2
    go_ret
    exact ⟨rfl, rfl⟩
  · have h1 : 8 < c := by omega
    clear h
    go_enter Tryz.func126, Tryz.ntmps126
    go_wp2
    go_ret
    exact ⟨rfl, rfl⟩
theorem not_counts {l : List Int} (h : ¬ CountsOk l) : ∃ i, i < l.length ∧ (l.getD i 0 < 1 ∨ 8 < l.getD i 0) := by
  refine Classical.byContradiction fun hn => h fun i hi => ?_
  refine Classical.byContradiction fun hc => hn ⟨i, hi, by omega⟩
theorem index_none (A : Option Addr) (l : List Int) (cap B : Nat) (w : World) (hn : l.length ≤ maxLen) (hA : Ints w .i64 B A l) (hf : CountsOk l) :
    Calls Tryz.prog 147 #[.slice A l.length cap, .func (.func 126) #[] #[]] w fun e w' => e = .returned (.int .i64 (-1)) ∧ w = w' := by
  unfold maxLen at hn
  have C := Lib.hid (fun c w (h : 1 ≤ c ∧ c ≤ 8) => isNoCount_no c w h.1 h.2)
  go_enter Tryz.func147, Tryz.ntmps147
  go_wp2
  go_loop [8] (fun i => ∃ k : Nat, k ≤ l.length ∧ i = .int .i64 k) (fun i => l.length - (intOf i).toNat)
  case atStart => exact ⟨0, Nat.zero_le _, rfl⟩
  case round =>
    obtain ⟨k, hk, rfl⟩ := hrel
    by_cases hlt : k < l.length
    · obtain ⟨b, off, rfl, hb, hc⟩ := hA k hlt
      have hv := Lib.hid (hf k hlt)
      generalize l.getD k 0 = v at hc hv
      clear hA hf
      go_wp2_with fail
      refine (C.out _ _ hv.out).mono ?_; rintro e w' ⟨rfl, rfl⟩
      go_wp2_with fail
      go_round
      case rel => exact ⟨k + 1, by omega, by go_num⟩
      case measure => simp [intOf]; omega
    · clear hA hf
      go_wp2
      go_ret
      exact ⟨rfl, rfl⟩
theorem index_some (A : Option Addr) (l : List Int) (cap B : Nat) (w : World) (hn : l.length ≤ maxLen) (hA : Ints w .i64 B A l) (hf : ¬ CountsOk l) :
    Calls Tryz.prog 147 #[.slice A l.length cap, .func (.func 126) #[] #[]] w fun e w' => ∃ i : Nat, e = .returned (.int .i64 i) ∧ i < maxLen ∧ w = w' := by
  unfold maxLen at *
  obtain ⟨j, hj, hjv⟩ := not_counts hf
  clear hf
  have C := Lib.hid (fun c w (h : 1 ≤ c ∧ c ≤ 8) => isNoCount_no c w h.1 h.2)
  have D := Lib.hid (fun c w (h : c < 1 ∨ 8 < c) => isNoCount_yes c w h)
  have HJ := Lib.hid hjv
  clear hjv
  go_enter Tryz.func147, Tryz.ntmps147
  go_wp2
  go_loop [8] (fun i => ∃ k : Nat, k ≤ j ∧ i = .int .i64 k) (fun i => l.length - (intOf i).toNat)
  case atStart => exact ⟨0, Nat.zero_le _, rfl⟩
  case round =>
    obtain ⟨k, hk, rfl⟩ := hrel
    have hlt : k < l.length := by omega
    obtain ⟨b, off, rfl, hb, hc⟩ := hA k hlt
    clear hA
    by_cases hbad : l.getD k 0 < 1 ∨ 8 < l.getD k 0
    · have hv := Lib.hid hbad
      clear hbad HJ
      generalize l.getD k 0 = v at hc hv
      go_wp2_with fail
      refine (D.out _ _ hv.out).mono ?_; rintro e w' ⟨rfl, rfl⟩
      go_wp2_with fail
      go_ret
      exact ⟨k, rfl, by omega, rfl⟩
    · have hkj : k < j := by
        rcases Nat.lt_or_ge k j with h | h
        · exact h
        · obtain rfl : k = j := by omega
          exact absurd HJ.out hbad
      have hv := Lib.hid (show 1 ≤ l.getD k 0 ∧ l.getD k 0 ≤ 8 by omega)
      clear hbad HJ
      generalize l.getD k 0 = v at hc hv
      go_wp2_with fail
      refine (C.out _ _ hv.out).mono ?_; rintro e w' ⟨rfl, rfl⟩
      go_wp2_with fail
      go_round
      case rel => exact ⟨k + 1, by omega, by go_num⟩
      case measure => simp [intOf]; omega
theorem contains_none (A : Option Addr) (l : List Int) (cap B : Nat) (w : World) (hn : l.length ≤ maxLen) (hA : Ints w .i64 B A l) (hf : CountsOk l) :
    Calls Tryz.prog 125 #[.slice A l.length cap, .func (.func 126) #[] #[]] w fun e w' => e = .returned (.bool false) ∧ w = w' := by
  have C := Lib.hid (index_none A l cap B w hn hA hf)
  clear hA hf
  unfold maxLen at hn
  go_enter Tryz.func125, Tryz.ntmps125
  go_wp2_with fail
  refine C.out.mono ?_; rintro e w' ⟨rfl, rfl⟩
  go_wp2_with fail
  go_ret
  exact ⟨rfl, rfl⟩
theorem contains_some (A : Option Addr) (l : List Int) (cap B : Nat) (w : World) (hn : l.length ≤ maxLen) (hA : Ints w .i64 B A l) (hf : ¬ CountsOk l) :
    Calls Tryz.prog 125 #[.slice A l.length cap, .func (.func 126) #[] #[]] w fun e w' => e = .returned (.bool true) ∧ w = w' := by
  have C := Lib.hid (index_some A l cap B w hn hA hf)
  clear hA hf
  unfold maxLen at hn
  go_enter Tryz.func125, Tryz.ntmps125
  go_wp2_with fail
  refine C.out.mono ?_; rintro e w' ⟨i, rfl, hi, rfl⟩
  unfold maxLen at hi
  have h0 : (0 : Int) ≤ i := by omega
  go_wp2_with fail
  go_ret
  exact ⟨rfl, rfl⟩
theorem Ints.take {w : World} {k : IntKind} {B : Nat} {A : Option Addr} {l : List Int} (h : Ints w k B A l) (n : Nat) : Ints w k B A (l.take n) := by
  intro i hi
  rw [List.length_take] at hi
  obtain ⟨b, off, rfl, hb, hc⟩ := h i (by omega)
  refine ⟨b, off, rfl, hb, ?_⟩
  rw [hc, List.getD_eq_getElem?_getD, List.getD_eq_getElem?_getD, List.getElem?_take_of_lt (by omega)]
theorem ahead_calls (key : Int) (A : Option Addr) (l : List Int) (cap r : Nat) (w : World) (hl : l.length ≤ 4) (hcap : l.length ≤ cap) (hA : Ints w .i64 w.heap.size A l) (hc : CountsOk l) (hr : r ≤ l.length) (hr0 : 0 < l.length) :
    Calls Tryz.prog 122 #[.agg #[.int .i64 key, .slice A l.length cap], .int .i64 r] w fun e w' => e = .returned (.int .i64 (upTo l r)) ∧ Below w.heap.size w w' := by
  have HA := Lib.hid hA
  have HC := Lib.hid hc
  obtain ⟨b0, off0, rfl, hb0, _⟩ := hA 0 hr0
  clear hA hc
  go_enter Tryz.func122, Tryz.ntmps122
  go_wp2
  go_loopw [5, 13] (fun s i wr => ∃ k : Nat, k ≤ r ∧ i = .int .i64 k ∧ s = .int .i64 (upTo l k) ∧ Below w.heap.size w wr) (fun _ i _ => r - (intOf i).toNat)
  case atStart => exact ⟨0, Nat.zero_le _, rfl, by rw [upTo_zero], (Below.refl _ _).alloc (Nat.le_refl _) _⟩
  case round =>
    obtain ⟨k, hk, rfl, rfl, hbel⟩ := hrel
    have HB := Lib.hid hbel
    clear hbel
    by_cases hlt : k < r
    · obtain ⟨b, off, e1, hb, hc⟩ := (HA.out.below HB.out (Nat.le_refl _)) k (by omega)
      injection e1 with e1
      injection e1 with e1 e2 e3
      subst e1 e2
      have hlt' : (k : Int) < r := by omega
      have hk0 : (0 : Int) ≤ k := by omega
      have HS := Lib.hid (upTo_succ l (show k < l.length by omega))
      have hv := HC.out k (by omega)
      have hu := upTo_bd HC.out (show k ≤ l.length by omega)
      generalize l.getD k 0 = v at hc hv HS
      generalize upTo l k = s at HS hu
      obtain ⟨v0, v1⟩ := hv
      obtain ⟨u0, u1⟩ := hu
      go_wp2
      go_roundw
      case rel => exact ⟨k + 1, by omega, by go_num, by rw [HS.out], HB.out⟩
      case measure => simp [intOf]; omega
    · obtain rfl : k = r := by omega
      go_wp2
      go_ret
      exact ⟨rfl, HB.out⟩
theorem sectors_calls (key : Int) (A : Option Addr) (l : List Int) (cap : Nat) (w : World) (hl : l.length ≤ 4) (hcap : l.length ≤ cap) (hA : Ints w .i64 w.heap.size A l) (hc : CountsOk l) (hr0 : 0 < l.length) :
    Calls Tryz.prog 127 #[.agg #[.int .i64 key, .slice A l.length cap]] w fun e w' => e = .returned (.int .i64 (upTo l l.length)) ∧ Below w.heap.size w w' := by
  have HA := Lib.hid hA
  have C := Lib.hid (fun w hA => ahead_calls key A l cap l.length w hl hcap hA hc (Nat.le_refl _) hr0)
  clear hA hc
  go_enter Tryz.func127, Tryz.ntmps127
  go_wp2_with fail
  refine (C.out _ ((HA.out.below ((Below.refl _ _).alloc (Nat.le_refl _) _) (Nat.le_refl _)).more (by simp))).mono ?_; rintro e w1 ⟨rfl, b1⟩
  have B1 := Lib.hid (((Below.refl w.heap.size w).alloc (Nat.le_refl _) _).trans (b1.mono (by simp)))
  clear b1 C
  go_wp2_with fail
  go_ret
  exact ⟨rfl, B1.out⟩
theorem first_yes (key : Int) (A : Option Addr) (l : List Int) (cap r : Nat) (w : World) (hl : l.length ≤ 4) (hcap : l.length ≤ cap) (hA : Ints w .i64 w.heap.size A l) (hc : CountsOk l) (hr : r < l.length) :
    Calls Tryz.prog 89 #[.agg #[.int .i64 key, .slice A l.length cap], .int .i64 r] w fun e w' => e = .returned (.int .i64 (upTo l r)) ∧ Below w.heap.size w w' := by
  have HA := Lib.hid hA
  have C := Lib.hid (fun w hA => ahead_calls key A l cap r w hl hcap hA hc (by omega) (by omega))
  have h0 : ¬ (r : Int) < 0 := by omega
  have h1 : ¬ (l.length : Int) ≤ r := by omega
  clear hA hc
  go_enter Tryz.func89, Tryz.ntmps89
  go_wp2_with fail
  refine (C.out _ ((HA.out.below ((Below.refl _ _).alloc (Nat.le_refl _) _) (Nat.le_refl _)).more (by simp))).mono ?_; rintro e w1 ⟨rfl, b1⟩
  have B1 := Lib.hid (((Below.refl w.heap.size w).alloc (Nat.le_refl _) _).trans (b1.mono (by simp)))
  clear b1 C
  go_wp2_with fail
  go_ret
  exact ⟨rfl, B1.out⟩
theorem first_no (key r : Int) (A : Option Addr) (n cap : Nat) (w : World) (hr : r < 0 ∨ n ≤ r) (hn : n ≤ 4) :
    Calls Tryz.prog 89 #[.agg #[.int .i64 key, .slice A n cap], .int .i64 r] w fun e w' => e = .returned (.int .i64 (-1)) ∧ Below w.heap.size w w' := by
  by_cases h0 : r < 0
  · clear hr
    go_enter Tryz.func89, Tryz.ntmps89
    go_wp2_with fail
    go_ret
    exact ⟨rfl, (Below.refl _ _).alloc (Nat.le_refl _) _⟩
  · have h1 : (n : Int) ≤ r := by omega
    clear hr
    go_enter Tryz.func89, Tryz.ntmps89
    go_wp2_with fail
    go_ret
    exact ⟨rfl, (Below.refl _ _).alloc (Nat.le_refl _) _⟩
end Go.Proofs.YteopplldbcgjjaaGreatDoor.Mx
namespace Go.Proofs.YteopplldbcgjjaaGreatDoor.Mx
open Go.ChangeShapes Go.WideShapes Go.ChangeAt Go.RowKit
set_option linter.unusedVariables false
open Classical in
noncomputable def okB (key : Int) (l : List Int) : Bool := decide (planOk key l)
open Classical in
theorem okB_yes {key : Int} {l : List Int} (h : planOk key l) : okB key l = true := by unfold okB; exact decide_eq_true h
open Classical in
theorem okB_no {key : Int} {l : List Int} (h : ¬ planOk key l) : okB key l = false := by unfold okB; exact decide_eq_false h
theorem box_below (w : World) (o : Obj) : Below w.heap.size w (w.alloc o) := (Below.refl _ _).alloc (Nat.le_refl _) _
theorem Ints.boxed {w : World} {k : IntKind} {A : Option Addr} {l : List Int} (h : Ints w k w.heap.size A l) (o : Obj) : Ints (w.alloc o) k (w.alloc o).heap.size A l := (h.below (box_below w o) (Nat.le_refl _)).more (by simp)
theorem planOk_calls (key : Int) (A : Option Addr) (l : List Int) (cap : Nat) (w : World) (hn : l.length ≤ maxLen) (hcap : l.length ≤ cap) (hA : Ints w .i64 w.heap.size A l) :
    Calls Tryz.prog 93 #[.agg #[.int .i64 key, .slice A l.length cap]] w fun e w' => e = .returned (.bool (okB key l)) ∧ Below w.heap.size w w' := by
  have hm := hn
  unfold maxLen at hm
  by_cases hk : 1 ≤ key ∧ key ≤ 1000000
  · have C := Lib.hid (fun w => isKey_yes key w hk.1 hk.2)
    by_cases h1 : 1 ≤ l.length
    · by_cases h4 : l.length ≤ 4
      · have g1 : ¬ (l.length : Int) < 1 := by omega
        have g4 : ¬ (4 : Int) < l.length := by omega
        by_cases hc : CountsOk l
        · have D := Lib.hid (fun B w hA => contains_none A l cap B w hn hA hc)
          have E := Lib.hid (fun w hA => sectors_calls key A l cap w h4 hcap hA hc h1)
          have HA := Lib.hid (hA.boxed (.cells #[.int .i64 key, .slice A l.length cap] 26))
          have hB : okB key l = decide (upTo l l.length ≤ 24) := by
            by_cases h : upTo l l.length ≤ 24
            · rw [okB_yes ⟨hk, ⟨h1, h4⟩, hc, h⟩, decide_eq_true h]
            · rw [okB_no (fun h' => h h'.2.2.2), decide_eq_false h]
          rw [hB]
          clear hA hc hk hB hn
          generalize upTo l l.length = s at E
          go_enter Tryz.func93, Tryz.ntmps93
          go_wp2_with fail
          refine (C.out _).mono ?_; rintro e w' ⟨rfl, rfl⟩
          go_wp2_with fail
          refine (D.out _ _ HA.out).mono ?_; rintro e w' ⟨rfl, rfl⟩
          go_wp2_with fail
          refine (E.out _ HA.out).mono ?_; rintro e w1 ⟨rfl, b1⟩
          have B1 := Lib.hid ((box_below w _).trans (b1.mono (by simp)))
          clear b1
          go_wp2_with fail
          go_ret
          exact ⟨rfl, B1.out⟩
        · have D := Lib.hid (fun B w hA => contains_some A l cap B w hn hA hc)
          have HA := Lib.hid (hA.boxed (.cells #[.int .i64 key, .slice A l.length cap] 26))
          rw [okB_no (fun h' => hc h'.2.2.1)]
          clear hA hc hk hn
          go_enter Tryz.func93, Tryz.ntmps93
          go_wp2_with fail
          refine (C.out _).mono ?_; rintro e w' ⟨rfl, rfl⟩
          go_wp2_with fail
          refine (D.out _ _ HA.out).mono ?_; rintro e w' ⟨rfl, rfl⟩
          go_wp2_with fail
          go_ret
          exact ⟨rfl, box_below w _⟩
      · have g1 : ¬ (l.length : Int) < 1 := by omega
        have g4 : (4 : Int) < l.length := by omega
        rw [okB_no (fun h' => h4 h'.2.1.2)]
        clear hA hk hn
        go_enter Tryz.func93, Tryz.ntmps93
        go_wp2_with fail
        refine (C.out _).mono ?_; rintro e w' ⟨rfl, rfl⟩
        go_wp2_with fail
        go_ret
        exact ⟨rfl, box_below w _⟩
    · have g1 : (l.length : Int) < 1 := by omega
      rw [okB_no (fun h' => h1 h'.2.1.1)]
      clear hA hk hn
      go_enter Tryz.func93, Tryz.ntmps93
      go_wp2_with fail
      refine (C.out _).mono ?_; rintro e w' ⟨rfl, rfl⟩
      go_wp2_with fail
      go_ret
      exact ⟨rfl, box_below w _⟩
  · have C := Lib.hid (fun w => isKey_no key w (by omega))
    rw [okB_no (fun h' => hk h'.1)]
    clear hA hk hn
    go_enter Tryz.func93, Tryz.ntmps93
    go_wp2_with fail
    refine (C.out _).mono ?_; rintro e w' ⟨rfl, rfl⟩
    go_wp2_with fail
    go_ret
    exact ⟨rfl, box_below w _⟩
theorem asked_no (key x : Int) (f : Value) (A : Option Addr) (l : List Int) (cap : Nat) (w : World) (hn : l.length ≤ maxLen) (hcap : l.length ≤ cap) (hA : Ints w .i64 w.heap.size A l) (hp : ¬ planOk key l) :
    Calls Tryz.prog 53 #[.agg #[.int .i64 key, .slice A l.length cap], f, .int .i64 x] w fun e w' => e = .returned (.int .i64 (-1)) ∧ Below w.heap.size w w' := by
  have C := Lib.hid (fun w hA => planOk_calls key A l cap w hn hcap hA)
  have HA := Lib.hid (hA.boxed (.cells #[.int .i64 key, .slice A l.length cap] 26))
  rw [okB_no hp] at C
  clear hA hp
  go_enter Tryz.func53, Tryz.ntmps53
  go_wp2_with fail
  refine (C.out _ HA.out).mono ?_; rintro e w1 ⟨rfl, b1⟩
  have B1 := Lib.hid ((box_below w _).trans (b1.mono (by simp)))
  clear b1
  go_wp2_with fail
  go_ret
  exact ⟨rfl, B1.out⟩
theorem first_right (key x : Int) (A : Option Addr) (l : List Int) (cap : Nat) (w : World) (hcap : l.length ≤ cap) (hA : Ints w .i64 w.heap.size A l) (hp : planOk key l) :
    Calls Tryz.prog 89 #[.agg #[.int .i64 key, .slice A l.length cap], .int .i64 x] w fun e w' => e = .returned (.int .i64 (firstOf key l x)) ∧ Below w.heap.size w w' := by
  by_cases h : 0 ≤ x ∧ x < l.length
  · obtain ⟨r, rfl⟩ : ∃ r : Nat, x = r := ⟨x.toNat, by omega⟩
    rw [firstOf_yes hp (by omega)]
    exact first_yes key A l cap r w hp.2.1.2 hcap hA hp.2.2.1 (by omega)
  · rw [firstOf_no (fun h' => h h'.2)]
    exact first_no key x A l.length cap w (by omega) hp.2.1.2
theorem asked_first (key x : Int) (A : Option Addr) (l : List Int) (cap : Nat) (w : World) (hn : l.length ≤ maxLen) (hcap : l.length ≤ cap) (hA : Ints w .i64 w.heap.size A l) (hp : planOk key l) :
    Calls Tryz.prog 53 #[.agg #[.int .i64 key, .slice A l.length cap], .func (.func 89) #[.agg #[.int .i64 key, .slice A l.length cap]] #[], .int .i64 x] w fun e w' => e = .returned (.int .i64 (firstOf key l x)) ∧ Below w.heap.size w w' := by
  have C := Lib.hid (fun w hA => planOk_calls key A l cap w hn hcap hA)
  have D := Lib.hid (fun w hA => first_right key x A l cap w hcap hA hp)
  have HA := Lib.hid (hA.boxed (.cells #[.int .i64 key, .slice A l.length cap] 26))
  rw [okB_yes hp] at C
  clear hA hp
  generalize firstOf key l x = y at D
  go_enter Tryz.func53, Tryz.ntmps53
  go_wp2_with fail
  refine (C.out _ HA.out).mono ?_; rintro e w1 ⟨rfl, b1⟩
  have H1 := Lib.hid ((HA.out.below b1 (Nat.le_refl _)).more b1.size)
  have B1 := Lib.hid ((box_below w _).trans (b1.mono (by simp)))
  clear b1
  go_wp2_with fail
  refine (D.out _ H1.out).mono ?_; rintro e w2 ⟨rfl, b2⟩
  have B2 := Lib.hid (B1.out.trans (b2.mono B1.out.size))
  clear b2
  go_wp2_with fail
  go_ret
  exact ⟨rfl, B2.out⟩
theorem firstOf_calls (key x : Int) (A : Option Addr) (l : List Int) (cap : Nat) (w : World) (hn : l.length ≤ maxLen) (hcap : l.length ≤ cap) (hA : Ints w .i64 w.heap.size A l) :
    Calls Tryz.prog 51 #[.agg #[.int .i64 key, .slice A l.length cap], .int .i64 x] w fun e w' => e = .returned (.int .i64 (firstOf key l x)) ∧ Below w.heap.size w w' := by
  have hmf : ∀ (fn : Fn) (first cap : Array Value) (w : World), (Instr.makeFunc fn first cap).run Tryz.prog w = .ok (.func fn first cap) w := fun _ _ _ _ => rfl
  have C0 : (∀ w, Ints w .i64 w.heap.size A l → Calls Tryz.prog 53 #[.agg #[.int .i64 key, .slice A l.length cap], .func (.func 89) #[.agg #[.int .i64 key, .slice A l.length cap]] #[], .int .i64 x] w fun e w' => e = .returned (.int .i64 (firstOf key l x)) ∧ Below w.heap.size w w') := by
    intro w hA
    by_cases hp : planOk key l
    · exact asked_first key x A l cap w hn hcap hA hp
    · rw [firstOf_no (fun h => hp h.1)]; exact asked_no key x _ A l cap w hn hcap hA hp
  have C := Lib.hid C0
  clear C0
  have HA := Lib.hid (hA.boxed (.cells #[.int .i64 key, .slice A l.length cap] 26))
  clear hA
  generalize firstOf key l x = y at C
  go_enter Tryz.func51, Tryz.ntmps51
  go_wp2_with fail
  refine (C.out _ HA.out).mono ?_; rintro e w1 ⟨rfl, b1⟩
  have B1 := Lib.hid ((box_below w _).trans (b1.mono (by simp)))
  clear b1
  go_wp2_with fail
  go_ret
  exact ⟨rfl, B1.out⟩
end Go.Proofs.YteopplldbcgjjaaGreatDoor.Mx
namespace Go.Proofs.YteopplldbcgjjaaGreatDoor.Mx
open Go.ChangeShapes Go.WideShapes Go.ChangeAt Go.RowKit
set_option linter.unusedVariables false
theorem info_i64 : (Tryz.prog.info? 2).map (fun i => (i.zero, i.size, i.bytes)) = some (some (.int .i64 0), 1, 8) := by kernel_rfl
theorem toInt64S_calls (A : Option Addr) (l : List Int) (cap : Nat) (w : World) (hn : l.length ≤ 1048576) (hA : Ints w .i64 w.heap.size A l) :
    Calls Tryz.prog 63 #[.slice A l.length cap] w fun e w' => e = .returned (.slice (some ⟨w.heap.size, 0, none⟩) l.length l.length) ∧ Below w.heap.size w w' ∧ w'.rowIs w.heap.size 2 l.length (fun i => .int .i64 (l.getD i 0)) := by
  have hmk := run_make_row' (P := Tryz.prog) 24 2 (.int .i64 0) 8 Tryz.underlying24 info_i64 rfl .i64 .i64 l.length (by omega) (by omega)
  go_enter Tryz.func63, Tryz.ntmps63
  go_wp2
  clear hmk
  go_loopw [4] (fun i wr => ∃ k : Nat, k ≤ l.length ∧ i = .int .i64 k ∧ Below w.heap.size w wr ∧ wr.rowIs w.heap.size 2 l.length (fun j => if j < k then .int .i64 (l.getD j 0) else .int .i64 0)) (fun i _ => l.length - (intOf i).toNat)
  case atStart =>
    refine ⟨0, Nat.zero_le _, rfl, (Below.refl _ _).alloc (Nat.le_refl _) _, ?_⟩
    exact (World.rowIs_made w (.int .i64 0) l.length 2).congr (by intro i hi; simp)
  case round =>
    obtain ⟨k, hk, rfl, hbel, hrow⟩ := hrel
    by_cases hlt : k < l.length
    · obtain ⟨b, off, rfl, hb, hc⟩ := (hA.below hbel (Nat.le_refl _)) k hlt
      have ho := hrow.cell hlt
      rw [if_neg (by omega)] at ho
      have hz := hrow.frozen k
      have hst := fun v => hrow.set k (Value.int .i64 v)
      have HST := Lib.hid hst
      have HB := Lib.hid hbel
      clear hst hrow hA hbel
      generalize hv : l.getD k 0 = v at hc
      have HV := Lib.hid hv
      clear hv
      go_wp2
      go_roundw
      case rel =>
        refine ⟨k + 1, by omega, by go_num, HB.out.setCell (Nat.le_refl _) _, (HST.out v).congr ?_⟩
        intro i hi
        by_cases hik : i = k
        · subst hik
          simp only [if_true]
          rw [if_pos (by omega), HV.out]
        · rw [if_neg hik]
          by_cases h3 : i < k
          · rw [if_pos h3, if_pos (by omega)]
          · rw [if_neg h3, if_neg (by omega)]
      case measure => simp [intOf]; omega
    · have hk' : k = l.length := by omega
      have HR := Lib.hid hrow
      have HB := Lib.hid hbel
      clear hrow hA hbel
      go_wp2
      go_ret
      refine ⟨rfl, HB.out, HR.out.congr ?_⟩
      intro i hi
      rw [if_pos (by omega)]
theorem eqInt64S_same (A C : Option Addr) (l : List Int) (cap cap' : Nat) (w : World) (hn : l.length ≤ 1048576) (hA : Ints w .i64 w.heap.size A l) (hC : Ints w .i64 w.heap.size C l) :
    Calls Tryz.prog 64 #[.slice A l.length cap, .slice C l.length cap'] w fun e w' => e = .returned (.bool true) ∧ Below w.heap.size w w' := by
  go_enter Tryz.func64, Tryz.ntmps64
  go_wp2
  go_loopw [5] (fun i wr => ∃ k : Nat, k ≤ l.length ∧ i = .int .i64 k ∧ Below w.heap.size w wr) (fun i _ => l.length - (intOf i).toNat)
  case atStart => exact ⟨0, Nat.zero_le _, rfl, Below.refl _ _⟩
  case round =>
    obtain ⟨k, hk, rfl, hbel⟩ := hrel
    by_cases hlt : k < l.length
    · obtain ⟨b, off, rfl, hb, hc⟩ := (hA.below hbel (Nat.le_refl _)) k hlt
      obtain ⟨b', off', rfl, hb', hc'⟩ := (hC.below hbel (Nat.le_refl _)) k hlt
      have HB := Lib.hid hbel
      clear hA hC hbel
      generalize hv : l.getD k 0 = v at hc hc'
      clear hv
      have hlt' : (k : Int) < l.length := by omega
      have hk0 : (0 : Int) ≤ k := by omega
      go_wp2
      go_quiet (fail)
      go_wp2
      go_roundw
      case rel => exact ⟨k + 1, by omega, by go_num, ⟨HB.out.os, HB.out.tape, HB.out.output, HB.out.size, HB.out.block⟩⟩
      case measure => simp [intOf]; omega
    · have HB := Lib.hid hbel
      clear hA hC hbel
      go_wp2
      go_ret
      exact ⟨rfl, HB.out⟩
end Go.Proofs.YteopplldbcgjjaaGreatDoor.Mx
namespace Go.Proofs.YteopplldbcgjjaaGreatDoor.Mx
open Go.ChangeShapes Go.WideShapes Go.ChangeAt Go.RowKit
set_option linter.unusedVariables false
theorem lt_of_cell {w : World} {b off : Nat} {s} {v : Value} (h : w.cell? ⟨b, off, s⟩ = some v) : b < w.heap.size := by
  rcases Nat.lt_or_ge b w.heap.size with hlt | hge
  · exact hlt
  · simp [World.cell?, Array.getElem?_eq_none hge] at h
theorem ints_of_row {k : IntKind} {w : World} {x : Addr} {zs : List Int} {len : Nat} (hl : len ≤ zs.length) (hcell : ∀ i, i < zs.length → w.cell? (x.add i) = some (.int k (zs.getD i 0))) :
    Ints w k w.heap.size (some x) (zs.take len) := by
  intro i hi
  have hi' : i < len := by rw [List.length_take] at hi; omega
  have hc := hcell i (by omega)
  obtain ⟨b, off, spot⟩ := x
  have hspot : spot = none := by
    have h0 := hcell 0 (by omega)
    simpa [Addr.add] using World.cell?_spot h0
  subst hspot
  have hg : (zs.take len).getD i 0 = zs.getD i 0 := by
    rw [List.getD_eq_getElem?_getD, List.getD_eq_getElem?_getD, List.getElem?_take, if_pos hi']
  rw [hg]
  have hc' : w.cell? ⟨b, off + i, none⟩ = some (.int k (zs.getD i 0)) := by
    rcases Nat.eq_zero_or_pos i with rfl | hp
    · simpa [Addr.add] using hc
    · have hne : i ≠ 0 := by omega
      simpa [Addr.add, hne] using hc
  exact ⟨b, off, rfl, lt_of_cell hc', hc'⟩
end Go.Proofs.YteopplldbcgjjaaGreatDoor.Mx
namespace Go.Proofs.YteopplldbcgjjaaGreatDoor.Mx
open Go.ChangeShapes Go.WideShapes Go.ChangeAt Go.RowKit
set_option linter.unusedVariables false
theorem l5Sum_calls (A : Option Addr) (l : List Int) (cap B : Nat) (w : World) (hl : l.length ≤ 4) (hA : Ints w .i64 B A l) (hc : CountsOk l) :
    Calls Tryz.prog 98 #[.slice A l.length cap] w fun e w' => e = .returned (.int .i64 (upTo l l.length)) ∧ w = w' := by
  go_enter Tryz.func98, Tryz.ntmps98
  go_wp2
  go_loop [3, 4] (fun s i => ∃ k : Nat, k ≤ l.length ∧ i = .int .i64 k ∧ s = .int .i64 (upTo l k)) (fun _ i => l.length - (intOf i).toNat)
  case atStart => exact ⟨0, Nat.zero_le _, rfl, by rw [upTo_zero]⟩
  case round =>
    obtain ⟨k, hk, rfl, rfl⟩ := hrel
    by_cases hlt : k < l.length
    · obtain ⟨b, off, rfl, hb, hv⟩ := hA k hlt
      have hlt' : (k : Int) < l.length := by omega
      have hk0 : (0 : Int) ≤ k := by omega
      have HS := Lib.hid (upTo_succ l hlt)
      have hu := upTo_bd hc hk
      have hb := hc k hlt
      clear hA hc
      generalize l.getD k 0 = v at hv hb HS
      generalize upTo l k = s at HS hu
      obtain ⟨v0, v1⟩ := hb
      obtain ⟨u0, u1⟩ := hu
      go_wp2
      go_round
      case rel => exact ⟨k + 1, by omega, by go_num, by rw [HS.out]⟩
      case measure => simp [intOf]; omega
    · obtain rfl : k = l.length := by omega
      clear hA hc
      go_wp2
      go_ret
      exact ⟨rfl, rfl⟩
theorem specPlanOk_counts (key : Int) (A : Option Addr) (l : List Int) (cap : Nat) (w : World) (hk : 1 ≤ key ∧ key ≤ 1000000) (h1 : 1 ≤ l.length) (h4 : l.length ≤ 4) (hA : Ints w .i64 w.heap.size A l) (hc : CountsOk l) :
    Calls Tryz.prog 75 #[.agg #[.int .i64 key, .slice A l.length cap]] w fun e w' => e = .returned (.bool (okB key l)) ∧ Below w.heap.size w w' := by
  have g1 : ¬ (l.length : Int) < 1 := by omega
  have g4 : ¬ (4 : Int) < l.length := by omega
  have C := Lib.hid (fun w => l1Key_yes key w hk.1 hk.2)
  have hA' := hA.boxed (.cells #[.int .i64 key, .slice A l.length cap] 26)
  have HA := Lib.hid hA'
  have HC := Lib.hid hc
  have D := Lib.hid (fun B w hA => l5Sum_calls A l cap B w h4 hA hc)
  have hB : okB key l = decide (upTo l l.length ≤ 24) := by
    by_cases h : upTo l l.length ≤ 24
    · rw [okB_yes ⟨hk, ⟨h1, h4⟩, hc, h⟩, decide_eq_true h]
    · rw [okB_no (fun h' => h h'.2.2.2), decide_eq_false h]
  rw [hB]
  clear hA hA' hc hk hB
  generalize upTo l l.length = s at D
  go_enter Tryz.func75, Tryz.ntmps75
  go_wp2_with fail
  refine (C.out _).mono ?_; rintro e w' ⟨rfl, rfl⟩
  go_wp2_with fail
  go_loop [3] (fun i => ∃ k : Nat, k ≤ l.length ∧ i = .int .i64 k) (fun i => l.length - (intOf i).toNat)
  case atStart => exact ⟨0, Nat.zero_le _, rfl⟩
  case round =>
    obtain ⟨k, hk, rfl⟩ := hrel
    by_cases hlt : k < l.length
    · obtain ⟨b, off, rfl, hb, hv⟩ := HA.out k hlt
      have hb := HC.out k hlt
      have hlt' : (k : Int) < l.length := by omega
      have hk0 : (0 : Int) ≤ k := by omega
      generalize l.getD k 0 = v at hv hb
      have E := Lib.hid (fun w => l1In_yes v 1 8 w hb.1 hb.2)
      go_wp2_with fail
      refine (E.out _).mono ?_; rintro e w' ⟨rfl, rfl⟩
      go_wp2_with fail
      go_round
      case rel => exact ⟨k + 1, by omega, by go_num⟩
      case measure => simp [intOf]; omega
    · obtain rfl : k = l.length := by omega
      go_wp2_with fail
      refine (D.out _ _ HA.out).mono ?_; rintro e w' ⟨rfl, rfl⟩
      go_wp2_with fail
      go_ret
      exact ⟨rfl, box_below w _⟩
theorem specPlanOk_not (key : Int) (A : Option Addr) (l : List Int) (cap : Nat) (w : World) (hk : 1 ≤ key ∧ key ≤ 1000000) (h1 : 1 ≤ l.length) (h4 : l.length ≤ 4) (hA : Ints w .i64 w.heap.size A l) (hc : ¬ CountsOk l) :
    Calls Tryz.prog 75 #[.agg #[.int .i64 key, .slice A l.length cap]] w fun e w' => e = .returned (.bool (okB key l)) ∧ Below w.heap.size w w' := by
  rw [okB_no (fun h' => hc h'.2.2.1)]
  have g1 : ¬ (l.length : Int) < 1 := by omega
  have g4 : ¬ (4 : Int) < l.length := by omega
  have C := Lib.hid (fun w => l1Key_yes key w hk.1 hk.2)
  have hA' := hA.boxed (.cells #[.int .i64 key, .slice A l.length cap] 26)
  have HA := Lib.hid hA'
  obtain ⟨j, hj, hjv⟩ := not_counts hc
  have HJ := Lib.hid hjv
  clear hA hA' hc hk hjv
  go_enter Tryz.func75, Tryz.ntmps75
  go_wp2_with fail
  refine (C.out _).mono ?_; rintro e w' ⟨rfl, rfl⟩
  go_wp2_with fail
  go_loop [3] (fun i => ∃ k : Nat, k ≤ j ∧ i = .int .i64 k) (fun i => l.length - (intOf i).toNat)
  case atStart => exact ⟨0, Nat.zero_le _, rfl⟩
  case round =>
    obtain ⟨k, hk, rfl⟩ := hrel
    have hlt : k < l.length := by omega
    obtain ⟨b, off, rfl, hb, hv⟩ := HA.out k hlt
    have hlt' : (k : Int) < l.length := by omega
    have hk0 : (0 : Int) ≤ k := by omega
    by_cases hbad : l.getD k 0 < 1 ∨ 8 < l.getD k 0
    · have E := Lib.hid (fun w => l1In_no (l.getD k 0) 1 8 w hbad)
      clear hbad HJ
      generalize l.getD k 0 = v at hv E
      go_wp2_with fail
      refine (E.out _).mono ?_; rintro e w' ⟨rfl, rfl⟩
      go_wp2_with fail
      go_ret
      exact ⟨rfl, box_below w _⟩
    · have hkj : k < j := by
        rcases Nat.lt_or_ge k j with h | h
        · exact h
        · obtain rfl : k = j := by omega
          exact absurd HJ.out hbad
      have E := Lib.hid (fun w => l1In_yes (l.getD k 0) 1 8 w (by omega) (by omega))
      clear hbad HJ
      generalize l.getD k 0 = v at hv E
      go_wp2_with fail
      refine (E.out _).mono ?_; rintro e w' ⟨rfl, rfl⟩
      go_wp2_with fail
      go_round
      case rel => exact ⟨k + 1, by omega, by go_num⟩
      case measure => simp [intOf]; omega
theorem specPlanOk_calls (key : Int) (A : Option Addr) (l : List Int) (cap : Nat) (w : World) (hn : l.length ≤ maxLen) (hA : Ints w .i64 w.heap.size A l) :
    Calls Tryz.prog 75 #[.agg #[.int .i64 key, .slice A l.length cap]] w fun e w' => e = .returned (.bool (okB key l)) ∧ Below w.heap.size w w' := by
  have hm := hn
  unfold maxLen at hm
  by_cases hk : 1 ≤ key ∧ key ≤ 1000000
  · have C := Lib.hid (fun w => l1Key_yes key w hk.1 hk.2)
    by_cases h1 : 1 ≤ l.length
    · by_cases h4 : l.length ≤ 4
      · by_cases hc : CountsOk l
        · exact specPlanOk_counts key A l cap w hk h1 h4 hA hc
        · exact specPlanOk_not key A l cap w hk h1 h4 hA hc
      · have g1 : ¬ (l.length : Int) < 1 := by omega
        have g4 : (4 : Int) < l.length := by omega
        rw [okB_no (fun h' => h4 h'.2.1.2)]
        clear hA hk hn
        go_enter Tryz.func75, Tryz.ntmps75
        go_wp2_with fail
        refine (C.out _).mono ?_; rintro e w' ⟨rfl, rfl⟩
        go_wp2_with fail
        go_ret
        exact ⟨rfl, box_below w _⟩
    · have g1 : (l.length : Int) < 1 := by omega
      rw [okB_no (fun h' => h1 h'.2.1.1)]
      clear hA hk hn
      go_enter Tryz.func75, Tryz.ntmps75
      go_wp2_with fail
      refine (C.out _).mono ?_; rintro e w' ⟨rfl, rfl⟩
      go_wp2_with fail
      go_ret
      exact ⟨rfl, box_below w _⟩
  · have C := Lib.hid (fun w => l1Key_no key w (by omega))
    rw [okB_no (fun h' => hk h'.1)]
    clear hA hk hn
    go_enter Tryz.func75, Tryz.ntmps75
    go_wp2_with fail
    refine (C.out _).mono ?_; rintro e w' ⟨rfl, rfl⟩
    go_wp2_with fail
    go_ret
    exact ⟨rfl, box_below w _⟩
end Go.Proofs.YteopplldbcgjjaaGreatDoor.Mx

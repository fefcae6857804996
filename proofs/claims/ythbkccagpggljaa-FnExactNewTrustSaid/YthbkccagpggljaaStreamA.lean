/- CONTRACTS OF impl.isValue, spec.l2Value, impl.StreamOf, spec.StreamOf: what each call answers; nothing that was there is written. -/
import Derived.Test.YthbkccagpggljaaMixD
import Derived.Outline
namespace Go.Proofs.Ythbkccagpggljaa.Mx
open Go.ChangeShapes Go.WideShapes Go.ChangeAt Go.RowKit
set_option linter.unusedVariables false

/-- A number of type int64. -/
def I64 (x : Int) : Prop := -9223372036854775808 ≤ x ∧ x ≤ 9223372036854775807
/-- What chapter 2 asks of StreamOf. -/
noncomputable def streamOf (key at_ time : Int) : Int := if mixOf key [1, at_, time] < 0 then -1 else mixOf key [1, at_, time] % 10007
/-- Is it a value? -/
def isVal (v : Int) : Prop := 0 ≤ v ∧ v ≤ 10006

theorem i64s_three {x y z : Int} (a : I64 x) (b : I64 y) (c : I64 z) : I64s [x, y, z] := I64s.cons a.1 a.2 (I64s.cons b.1 b.2 (I64s.cons c.1 c.2 I64s.nil))

/-- What is mixed: -1, or from 0 to MixMod less 1. -/
theorem mixOf_bd (key : Int) (l : List Int) : -1 ≤ mixOf key l ∧ mixOf key l ≤ 4611686018427387903 := by
  by_cases hk : 1 ≤ key ∧ key ≤ 1000000
  · by_cases hf : Fine l
    · rw [mixOf_yes hk.1 hk.2 hf]
      have X := roll_bd 131 2147483647 (7 + key) l (by omega) (by omega) (by omega)
      have Y := roll_bd 137 2147483629 (11 + 2 * key) l (by omega) (by omega) (by omega)
      omega
    · rw [mixOf_neg hf]; omega
  · rw [mixOf_key (by omega)]; omega
theorem mixOf_nat {key : Int} {l : List Int} (h0 : 1 ≤ key) (h1 : key ≤ 1000000) (hf : Fine l) : 0 ≤ mixOf key l := by
  rw [mixOf_yes h0 h1 hf]
  have X := roll_bd 131 2147483647 (7 + key) l (by omega) (by omega) (by omega)
  have Y := roll_bd 137 2147483629 (11 + 2 * key) l (by omega) (by omega) (by omega)
  omega
theorem streamOf_bd (key at_ time : Int) : -1 ≤ streamOf key at_ time ∧ streamOf key at_ time ≤ 10006 := by
  unfold streamOf
  split <;> omega
theorem fine_three {x y z : Int} (hx : 0 ≤ x) (hy : 0 ≤ y) (hz : 0 ≤ z) : Fine [x, y, z] := by
  intro i hi
  match i, hi with
  | 0, _ => exact hx
  | 1, _ => exact hy
  | 2, _ => exact hz
theorem streamOf_nat {key at_ time : Int} (h0 : 1 ≤ key) (h1 : key ≤ 1000000) (ha : 0 ≤ at_) (ht : 0 ≤ time) : 0 ≤ streamOf key at_ time := by
  have := mixOf_nat h0 h1 (fine_three (x := 1) (by omega) ha ht)
  unfold streamOf
  rw [if_neg (by omega)]; omega

theorem isValue_yes (s : Int) (w : World) (h : isVal s) :
    Calls Try.prog 65 #[.int .i64 s] w fun e w' => e = .returned (.bool true) ∧ w = w' := by
  obtain ⟨h0, h1⟩ := h
  have h2 : s < 10007 := by omega
  go_enter Try.func65, Try.ntmps65
  go_wp2
  go_ret
  exact ⟨rfl, rfl⟩
theorem isValue_no (s : Int) (w : World) (h : ¬ isVal s) :
    Calls Try.prog 65 #[.int .i64 s] w fun e w' => e = .returned (.bool false) ∧ w = w' := by
  unfold isVal at h
  by_cases h0 : 0 ≤ s
  · have h2 : ¬ s < 10007 := by omega
    clear h
    go_enter Try.func65, Try.ntmps65
    go_wp2
    go_ret
    exact ⟨rfl, rfl⟩
  · clear h
    go_enter Try.func65, Try.ntmps65
    go_wp2
    go_ret
    exact ⟨rfl, rfl⟩
theorem l2Value_yes (s : Int) (w : World) (h : isVal s) :
    Calls Try.prog 39 #[.int .i64 s] w fun e w' => e = .returned (.bool true) ∧ w = w' := by
  obtain ⟨h0, h1⟩ := h
  go_enter Try.func39, Try.ntmps39
  go_wp2_with (go_at_call 27; refine (l1In_yes _ _ _ _ h0 h1).mono ?_; rintro e w' ⟨rfl, rfl⟩)
  go_ret
  exact ⟨rfl, rfl⟩
theorem l2Value_no (s : Int) (w : World) (h : ¬ isVal s) :
    Calls Try.prog 39 #[.int .i64 s] w fun e w' => e = .returned (.bool false) ∧ w = w' := by
  unfold isVal at h
  have h' : s < 0 ∨ 10006 < s := by omega
  clear h
  go_enter Try.func39, Try.ntmps39
  go_wp2_with (go_at_call 27; refine (l1In_no _ _ _ _ h').mono ?_; rintro e w' ⟨rfl, rfl⟩)
  go_ret
  exact ⟨rfl, rfl⟩

/-- Three numbers laid by the call itself, mixed. -/
theorem mixed_three (key x y z : Int) (g : Nat) (w : World) (hg : w.heap.size = g) (a : I64 x) (b : I64 y) (c : I64 z) :
    Calls Try.prog 68 #[.int .i64 key, .slice (some ⟨g, 0, none⟩) 3 3] (w.alloc (.cells #[.int .i64 x, .int .i64 y, .int .i64 z] 2)) fun e w' => e = .returned (.int .i64 (mixOf key [x, y, z])) ∧ w.alloc (.cells #[.int .i64 x, .int .i64 y, .int .i64 z] 2) = w' := by
  subst hg
  exact mixed_calls key (some ⟨w.heap.size, 0, none⟩) [x, y, z] 3 (w.heap.size + 1) _ (by simp [maxLen]) (CellsAt.reads [x, y, z] (CellsAt.new w 2 _)) (i64s_three a b c)
theorem specMix_three (key x y z : Int) (g : Nat) (w : World) (hg : w.heap.size = g) (a : I64 x) (b : I64 y) (c : I64 z) :
    Calls Try.prog 41 #[.int .i64 key, .slice (some ⟨g, 0, none⟩) 3 3] (w.alloc (.cells #[.int .i64 x, .int .i64 y, .int .i64 z] 2)) fun e w' => e = .returned (.int .i64 (mixOf key [x, y, z])) ∧ w.alloc (.cells #[.int .i64 x, .int .i64 y, .int .i64 z] 2) = w' := by
  subst hg
  exact specMix_calls key (some ⟨w.heap.size, 0, none⟩) [x, y, z] 3 (w.heap.size + 1) _ (by simp [maxLen]) (CellsAt.reads [x, y, z] (CellsAt.new w 2 _)) (i64s_three a b c)

theorem one_i64 : I64 1 := ⟨by omega, by omega⟩

theorem stream_calls (key at_ time : Int) (w : World) (ha : I64 at_) (ht : I64 time) :
    Calls Try.prog 60 #[.int .i64 key, .int .i64 at_, .int .i64 time] w fun e w' => e = .returned (.int .i64 (streamOf key at_ time)) ∧ Below w.heap.size w w' := by
  have C := Lib.hid (fun g w hg => mixed_three key 1 at_ time g w hg one_i64 ha ht)
  have M := mixOf_bd key [1, at_, time]
  unfold streamOf
  clear ha ht
  generalize mixOf key [1, at_, time] = m at C M
  obtain ⟨m0, m1⟩ := M
  by_cases hm : m < 0
  · rw [if_pos hm]
    go_enter Try.func60, Try.ntmps60
    go_wp2_with fail
    refine (C.out _ _ ?_).mono ?_; (first | rfl | simp); rintro e w7 ⟨rfl, h7⟩
    subst h7
    go_wp2_with fail
    go_ret
    exact ⟨rfl, (Below.refl _ _).alloc (Nat.le_refl _) _⟩
  · rw [if_neg hm]
    go_enter Try.func60, Try.ntmps60
    go_wp2_with fail
    refine (C.out _ _ ?_).mono ?_; (first | rfl | simp); rintro e w7 ⟨rfl, h7⟩
    subst h7
    go_wp2_with fail
    go_ret
    exact ⟨rfl, (Below.refl _ _).alloc (Nat.le_refl _) _⟩

theorem specStream_calls (key at_ time : Int) (w : World) (ha : I64 at_) (ht : I64 time) :
    Calls Try.prog 40 #[.int .i64 key, .int .i64 at_, .int .i64 time] w fun e w' => e = .returned (.int .i64 (streamOf key at_ time)) ∧ Below w.heap.size w w' := by
  have C := Lib.hid (fun g w hg => specMix_three key 1 at_ time g w hg one_i64 ha ht)
  have M := mixOf_bd key [1, at_, time]
  unfold streamOf
  clear ha ht
  generalize mixOf key [1, at_, time] = m at C M
  obtain ⟨m0, m1⟩ := M
  by_cases hm : m < 0
  · rw [if_pos hm]
    go_enter Try.func40, Try.ntmps40
    go_wp2_with fail
    refine (C.out _ _ ?_).mono ?_; (first | rfl | simp); rintro e w7 ⟨rfl, h7⟩
    subst h7
    go_wp2_with fail
    go_ret
    exact ⟨rfl, (Below.refl _ _).alloc (Nat.le_refl _) _⟩
  · rw [if_neg hm]
    go_enter Try.func40, Try.ntmps40
    go_wp2_with fail
    refine (C.out _ _ ?_).mono ?_; (first | rfl | simp); rintro e w7 ⟨rfl, h7⟩
    subst h7
    go_wp2_with fail
    go_ret
    exact ⟨rfl, (Below.refl _ _).alloc (Nat.le_refl _) _⟩
end Go.Proofs.Ythbkccagpggljaa.Mx

import Derived.WalkKit
import Derived.ProofKit
import Derived.Below
import Derived.IntWalk
import Derived.Deep.Draws
import Derived.Laws.Rows
import Derived.Test.YtgaecedhkbneaaaGreatDoorRows
import Derived.OpenShut
import Derived.Deep.QuietTactic
import Derived.BigQuiet
import Derived.Lib.Hide
import Derived.Outline
namespace Go.Proofs.YtgaecedhkbneaaaGreatDoor.Mx
open Go.RowKit
set_option linter.unusedVariables false
abbrev zT : Array Value := #[.int .i64 0, .int .i64 0, .int .i64 0, .int .i64 0, .int .i64 0, .int .i64 0, .int .i64 0, .bool false]
abbrev zC : Array Value := #[.int .i64 0, .int .i64 0]
abbrev zP : Array Value := #[.int .i64 0, .slice none 0 0]
abbrev zV : Array Value := #[.int .i64 0, .slice none 0 0, .slice none 0 0, .slice none 0 0, .slice none 0 0, .int .i64 0]
abbrev tA (a b c d e f g : Int) (h : Bool) : Array Value := #[.int .i64 a, .int .i64 b, .int .i64 c, .int .i64 d, .int .i64 e, .int .i64 f, .int .i64 g, .bool h]
abbrev cA (a b : Int) : Array Value := #[.int .i64 a, .int .i64 b]
abbrev pA (k : Int) (A : Option Addr) (n c : Nat) : Array Value := #[.int .i64 k, .slice A n c]
def Ints (w : World) (k : IntKind) (B : Nat) (A : Option Addr) (l : List Int) : Prop :=
  ∀ i, i < l.length → ∃ b off, A = some ⟨b, off, none⟩ ∧ b < B ∧ w.cell? ⟨b, off + i, none⟩ = some (.int k (l.getD i 0))
theorem Ints.below {w w' : World} {k : IntKind} {B B' : Nat} {A : Option Addr} {l : List Int} (h : Ints w k B A l) (hb : Below B' w w') (hB : B ≤ B') : Ints w' k B A l := by
  intro i hi
  obtain ⟨b, off, rfl, hlt, hc⟩ := h i hi
  exact ⟨b, off, rfl, hlt, (hb.cell (p := ⟨b, off + i, none⟩) (Nat.lt_of_lt_of_le hlt hB)).trans hc⟩
theorem Ints.more {w : World} {k : IntKind} {B B' : Nat} {A : Option Addr} {l : List Int} (h : Ints w k B A l) (hB : B ≤ B') : Ints w k B' A l := by
  intro i hi
  obtain ⟨b, off, rfl, hlt, hc⟩ := h i hi
  exact ⟨b, off, rfl, by omega, hc⟩
theorem Ints.nil {w : World} {k : IntKind} {B : Nat} {A : Option Addr} : Ints w k B A [] := by
  intro i hi; simp at hi
def Fine (l : List Int) : Prop := ∀ i, i < l.length → 0 ≤ l.getD i 0
def I64s (l : List Int) : Prop := ∀ i, i < l.length → -9223372036854775808 ≤ l.getD i 0 ∧ l.getD i 0 ≤ 9223372036854775807
def roll (f m s : Int) (l : List Int) : Int := l.foldl (fun s n => (s * f + n % m + 1) % m) s
theorem roll_take (f m s : Int) (l : List Int) (k : Nat) (h : k < l.length) : roll f m s (l.take (k + 1)) = (roll f m s (l.take k) * f + l.getD k 0 % m + 1) % m := by
  unfold roll
  rw [List.take_succ_eq_append_getElem h, List.foldl_append]
  simp [List.getD_eq_getElem?_getD, h]
theorem roll_bd (f m s : Int) (l : List Int) (hm : 0 < m) (h0 : 0 ≤ s) (h1 : s < m) : 0 ≤ roll f m s l ∧ roll f m s l < m := by
  unfold roll
  induction l generalizing s with
  | nil => exact ⟨h0, h1⟩
  | cons a l ih => exact ih _ (Int.emod_nonneg _ (by omega)) (Int.emod_lt_of_pos _ hm)
theorem roll_all (f m s : Int) (l : List Int) : roll f m s (l.take l.length) = roll f m s l := by rw [List.take_length]
open Classical in
noncomputable def mixOf (key : Int) (l : List Int) : Int :=
  if (1 ≤ key ∧ key ≤ 1000000) ∧ Fine l then roll 131 2147483647 (7 + key) l * 2147483648 + roll 137 2147483629 (11 + 2 * key) l else -1
theorem mixOf_yes {key : Int} {l : List Int} (h0 : 1 ≤ key) (h1 : key ≤ 1000000) (hf : Fine l) : mixOf key l = roll 131 2147483647 (7 + key) l * 2147483648 + roll 137 2147483629 (11 + 2 * key) l := by
  unfold mixOf; rw [if_pos ⟨⟨h0, h1⟩, hf⟩]
theorem mixOf_key {key : Int} {l : List Int} (h : key < 1 ∨ 1000000 < key) : mixOf key l = -1 := by
  unfold mixOf; rw [if_neg (by omega)]
theorem mixOf_neg {key : Int} {l : List Int} (h : ¬ Fine l) : mixOf key l = -1 := by
  unfold mixOf; rw [if_neg (fun h' => h h'.2)]
theorem not_fine {l : List Int} (h : ¬ Fine l) : ∃ i, i < l.length ∧ l.getD i 0 < 0 := by
  refine Classical.byContradiction fun hn => h fun i hi => ?_
  refine Classical.byContradiction fun hc => hn ⟨i, hi, by omega⟩
/-! ### Worlds that part in one block -/
theorem gb_refl (w : World) (r : Option Nat) : w.grownBy w r := ⟨rfl, rfl, rfl, Nat.le_refl _, fun _ _ _ => rfl⟩
theorem gb_trans {a b c : World} {r : Option Nat} (h : a.grownBy b r) (k : b.grownBy c r) : a.grownBy c r :=
  ⟨k.os.trans h.os, k.tape.trans h.tape, k.output.trans h.output, Nat.le_trans h.size k.size, fun i hi hr => (k.block i (Nat.lt_of_lt_of_le hi h.size) hr).trans (h.block i hi hr)⟩
theorem gb_set {a b : World} {g : Nat} (h : a.grownBy b (some g)) (j : Nat) (u : Value) : a.grownBy (b.setCell ⟨g, j, none⟩ u) (some g) :=
  gb_trans h ⟨rfl, rfl, rfl, by simp [World.setCell], fun k _ hk => Below.heap_setCell _ _ _ _ (fun e => hk (by rw [e]))⟩
theorem gb_drew {a b : World} {r : Option Nat} (h : a.grownBy b r) : a.grownBy b.drew r := ⟨h.os, h.tape, h.output, h.size, h.block⟩
theorem gb_alloc {a b : World} {r : Option Nat} (h : a.grownBy b r) (o : Obj) : a.grownBy (b.alloc o) r :=
  gb_trans h ⟨rfl, rfl, rfl, by simp, fun k hk _ => Below.heap_alloc _ _ _ hk⟩
theorem bgb {B : Nat} {a b c : World} {g : Nat} (h : Below B a b) (hg : b.grownBy c (some g)) (hB : B ≤ b.heap.size) (hr : B ≤ g) : Below B a c :=
  h.grown hg hB (fun k e => by injection e with e; omega)
def CellsAt (w : World) (g : Nat) (t : TypeId) (cs : Array Value) : Prop := w.heap[g]? = some (Obj.cells cs t (0, 0))
namespace CellsAt
variable {w v : World} {g : Nat} {t : TypeId} {cs : Array Value}
theorem lt (h : CellsAt w g t cs) : g < w.heap.size := (Array.getElem?_eq_some_iff.1 h).1
theorem cell (h : CellsAt w g t cs) (i : Nat) : w.cell? ⟨g, i, none⟩ = cs[i]? := by
  have e : w.heap[g]? = some (Obj.cells cs t (0, 0)) := h
  simp [World.cell?, e]
theorem frozen (h : CellsAt w g t cs) (i : Nat) : w.frozen? ⟨g, i, none⟩ = false := by
  have e : w.heap[g]? = some (Obj.cells cs t (0, 0)) := h
  simp [World.frozen?, e]
theorem new (w : World) (t : TypeId) (cs : Array Value) : CellsAt (w.alloc (.cells cs t)) w.heap.size t cs := by
  show (w.heap.push _)[w.heap.size]? = _
  simp
theorem drew (h : CellsAt w g t cs) : CellsAt w.drew g t cs := h
theorem set_ (h : CellsAt w g t cs) (i : Nat) (u : Value) : CellsAt (w.setCell ⟨g, i, none⟩ u) g t (cs.setIfInBounds i u) := heap_setCell_same w g i cs t u h
theorem below {B : Nat} (h : CellsAt w g t cs) (hb : Below B w v) (hg : g < B) : CellsAt v g t cs := by
  show v.heap[g]? = _
  rw [hb.block g hg]; exact h
theorem grown {row : Option Nat} (h : CellsAt w g t cs) (hb : w.grownBy v row) (hg : some g ≠ row) : CellsAt v g t cs := by
  show v.heap[g]? = _
  rw [hb.block g h.lt hg]; exact h
end CellsAt
/-! ### A block of numbers that the call lays itself -/
theorem I64s.nil : I64s [] := by intro i hi; simp at hi
theorem I64s.cons {a : Int} {l : List Int} (h0 : -9223372036854775808 ≤ a) (h1 : a ≤ 9223372036854775807) (h : I64s l) : I64s (a :: l) := by
  intro i hi
  cases i with
  | zero => exact ⟨h0, h1⟩
  | succ j => exact h j (by simpa using hi)
theorem CellsAt.ints {w : World} {g : Nat} {t : TypeId} {zs : List Int} (h : CellsAt w g t ((zs.map (Value.int .i64)).toArray)) {k : Nat} (hk : k < zs.length) : w.cell? ⟨g, k, none⟩ = some (.int .i64 (zs.getD k 0)) := by
  rw [h.cell]
  simp [List.getD_eq_getElem?_getD, hk]
theorem CellsAt.reads {w : World} {g : Nat} {t : TypeId} (zs : List Int) (h : CellsAt w g t ((zs.map (Value.int .i64)).toArray)) : Ints w .i64 (g + 1) (some ⟨g, 0, none⟩) zs := by
  intro i hi
  exact ⟨g, 0, rfl, by omega, by rw [Nat.zero_add]; exact h.ints hi⟩
/-! ### A row that the call appends to -/
theorem gr_below {a b : World} {r : Option Nat} {B : Nat} (h : a.grownBy b r) (hB : B ≤ a.heap.size) (hr : ∀ k, r = some k → B ≤ k) : Below B a b :=
  ⟨h.os, h.tape, h.output, h.size, fun k hk => h.block k (by omega) (by intro e; have := hr k e.symm; omega)⟩
def upTo (l : List Int) (k : Nat) : Int := (l.take k).foldl (· + ·) 0
theorem upTo_zero (l : List Int) : upTo l 0 = 0 := by simp [upTo]
theorem upTo_succ (l : List Int) {k : Nat} (h : k < l.length) : upTo l (k + 1) = upTo l k + l.getD k 0 := by
  unfold upTo
  rw [List.take_succ_eq_append_getElem h, List.foldl_append, List.getD_eq_getElem?_getD, List.getElem?_eq_getElem h]
  rfl
def CountsOk (l : List Int) : Prop := ∀ i, i < l.length → 1 ≤ l.getD i 0 ∧ l.getD i 0 ≤ 8
def planOk (key : Int) (l : List Int) : Prop := (1 ≤ key ∧ key ≤ 1000000) ∧ (1 ≤ l.length ∧ l.length ≤ 4) ∧ CountsOk l ∧ upTo l l.length ≤ 24
theorem upTo_mono {l : List Int} (h : CountsOk l) {i j : Nat} (hij : i ≤ j) (hj : j ≤ l.length) : upTo l i + ((j - i : Nat) : Int) ≤ upTo l j := by
  induction j with
  | zero => obtain rfl : i = 0 := by omega
            simp
  | succ j ih =>
    rcases Nat.lt_or_ge j i with hlt | hge
    · obtain rfl : i = j + 1 := by omega
      simp
    · have h1 := ih hge (by omega)
      have h2 := (h j (by omega)).1
      rw [upTo_succ l (by omega)]
      omega
theorem upTo_bd {l : List Int} (h : CountsOk l) {k : Nat} (hk : k ≤ l.length) : 0 ≤ upTo l k ∧ upTo l k ≤ 8 * k := by
  induction k with
  | zero => rw [upTo_zero]; omega
  | succ k ih =>
    have h1 := ih (by omega)
    have h2 := h k (by omega)
    rw [upTo_succ l (by omega)]
    omega
open Classical in
noncomputable def sectorsOf (key : Int) (l : List Int) : Int := if planOk key l then upTo l l.length else -1
open Classical in
noncomputable def firstOf (key : Int) (l : List Int) (r : Int) : Int := if planOk key l ∧ 0 ≤ r ∧ r < l.length then upTo l r.toNat else -1
theorem firstOf_yes {key : Int} {l : List Int} {r : Nat} (h : planOk key l) (hr : r < l.length) : firstOf key l r = upTo l r := by
  unfold firstOf; rw [if_pos ⟨h, by omega, by omega⟩]; simp
theorem firstOf_no {key : Int} {l : List Int} {r : Int} (h : ¬ (planOk key l ∧ 0 ≤ r ∧ r < l.length)) : firstOf key l r = -1 := by unfold firstOf; rw [if_neg h]
theorem sectorsOf_yes {key : Int} {l : List Int} (h : planOk key l) : sectorsOf key l = upTo l l.length := by unfold sectorsOf; rw [if_pos h]
theorem sectorsOf_no {key : Int} {l : List Int} (h : ¬ planOk key l) : sectorsOf key l = -1 := by unfold sectorsOf; rw [if_neg h]
open Go.ChangeShapes Go.WideShapes Go.ChangeAt Go.RowKit
def addOf (a b : Int) : Int := if (0 ≤ a ∧ a ≤ 4611686018427387903) ∧ 0 ≤ b ∧ b ≤ 4611686018427387903 then (a + b) % 4611686018427387904 else -1
theorem isSum_yes (s : Int) (w : World) (h0 : 0 ≤ s) (h1 : s ≤ 4611686018427387903) :
    Calls Tryz.prog 230 #[.int .i64 s] w fun e w' => e = .returned (.bool true) ∧ w = w' := by
  have h2 : s < 4611686018427387904 := by omega
  go_enter Tryz.func230, Tryz.ntmps230
  go_wp2
  go_ret
  exact ⟨rfl, rfl⟩
theorem isSum_no (s : Int) (w : World) (h : s < 0 ∨ 4611686018427387903 < s) :
    Calls Tryz.prog 230 #[.int .i64 s] w fun e w' => e = .returned (.bool false) ∧ w = w' := by
  by_cases h0 : 0 ≤ s
  · have h2 : ¬ s < 4611686018427387904 := by omega
    clear h
    go_enter Tryz.func230, Tryz.ntmps230
    go_wp2
    go_ret
    exact ⟨rfl, rfl⟩
  · clear h
    go_enter Tryz.func230, Tryz.ntmps230
    go_wp2
    go_ret
    exact ⟨rfl, rfl⟩
theorem l1In_yes (s lo hi : Int) (w : World) (h0 : lo ≤ s) (h1 : s ≤ hi) :
    Calls Tryz.prog 69 #[.int .i64 s, .int .i64 lo, .int .i64 hi] w fun e w' => e = .returned (.bool true) ∧ w = w' := by
  go_enter Tryz.func69, Tryz.ntmps69
  go_wp2
  go_ret
  exact ⟨rfl, rfl⟩
theorem l1In_no (s lo hi : Int) (w : World) (h : s < lo ∨ hi < s) :
    Calls Tryz.prog 69 #[.int .i64 s, .int .i64 lo, .int .i64 hi] w fun e w' => e = .returned (.bool false) ∧ w = w' := by
  by_cases h0 : lo ≤ s
  · have h2 : ¬ s ≤ hi := by omega
    clear h
    go_enter Tryz.func69, Tryz.ntmps69
    go_wp2
    go_ret
    exact ⟨rfl, rfl⟩
  · clear h
    go_enter Tryz.func69, Tryz.ntmps69
    go_wp2
    go_ret
    exact ⟨rfl, rfl⟩
theorem add_calls (a b : Int) (w : World) :
    Calls Tryz.prog 224 (cA a b) w fun e w' => e = .returned (.int .i64 (addOf a b)) ∧ w = w' := by
  by_cases ha : 0 ≤ a ∧ a ≤ 4611686018427387903
  · obtain ⟨ha0, ha1⟩ := ha
    by_cases hb : 0 ≤ b ∧ b ≤ 4611686018427387903
    · obtain ⟨hb0, hb1⟩ := hb
      have hf : addOf a b = (a + b) % 4611686018427387904 := by unfold addOf; rw [if_pos ⟨⟨ha0, ha1⟩, hb0, hb1⟩]
      rw [hf]; clear hf
      go_enter Tryz.func224, Tryz.ntmps224
      go_wp2_with (go_at_call 230; refine (isSum_yes _ _ (by omega) (by omega)).mono ?_; rintro e w' ⟨rfl, rfl⟩)
      go_ret
      exact ⟨rfl, rfl⟩
    · have hb' : b < 0 ∨ 4611686018427387903 < b := by omega
      have hf : addOf a b = -1 := by unfold addOf; rw [if_neg (by omega)]
      rw [hf]; clear hf hb
      go_enter Tryz.func224, Tryz.ntmps224
      go_wp2_with fail
      refine (isSum_yes _ _ ha0 ha1).mono ?_; rintro e w' ⟨rfl, rfl⟩
      go_wp2_with fail
      refine (isSum_no _ _ hb').mono ?_; rintro e w' ⟨rfl, rfl⟩
      go_wp2
      go_ret
      exact ⟨rfl, rfl⟩
  · have ha' : a < 0 ∨ 4611686018427387903 < a := by omega
    have hf : addOf a b = -1 := by unfold addOf; rw [if_neg (by omega)]
    rw [hf]; clear hf ha
    go_enter Tryz.func224, Tryz.ntmps224
    go_wp2_with (go_at_call 230; refine (isSum_no _ _ ha').mono ?_; rintro e w' ⟨rfl, rfl⟩)
    go_ret
    exact ⟨rfl, rfl⟩
theorem specAdd_calls (a b : Int) (w : World) :
    Calls Tryz.prog 171 (cA a b) w fun e w' => e = .returned (.int .i64 (addOf a b)) ∧ w = w' := by
  by_cases ha : 0 ≤ a ∧ a ≤ 4611686018427387903
  · obtain ⟨ha0, ha1⟩ := ha
    by_cases hb : 0 ≤ b ∧ b ≤ 4611686018427387903
    · obtain ⟨hb0, hb1⟩ := hb
      have hf : addOf a b = (a + b) % 4611686018427387904 := by unfold addOf; rw [if_pos ⟨⟨ha0, ha1⟩, hb0, hb1⟩]
      rw [hf]; clear hf
      go_enter Tryz.func171, Tryz.ntmps171
      go_wp2_with (go_at_call 69; refine (l1In_yes _ _ _ _ (by omega) (by omega)).mono ?_; rintro e w' ⟨rfl, rfl⟩)
      go_ret
      exact ⟨rfl, rfl⟩
    · have hb' : b < 0 ∨ 4611686018427387903 < b := by omega
      have hf : addOf a b = -1 := by unfold addOf; rw [if_neg (by omega)]
      rw [hf]; clear hf hb
      go_enter Tryz.func171, Tryz.ntmps171
      go_wp2_with fail
      refine (l1In_yes _ _ _ _ ha0 ha1).mono ?_; rintro e w' ⟨rfl, rfl⟩
      go_wp2_with fail
      refine (l1In_no _ _ _ _ hb').mono ?_; rintro e w' ⟨rfl, rfl⟩
      go_wp2
      go_ret
      exact ⟨rfl, rfl⟩
  · have ha' : a < 0 ∨ 4611686018427387903 < a := by omega
    have hf : addOf a b = -1 := by unfold addOf; rw [if_neg (by omega)]
    rw [hf]; clear hf ha
    go_enter Tryz.func171, Tryz.ntmps171
    go_wp2_with (go_at_call 69; refine (l1In_no _ _ _ _ ha').mono ?_; rintro e w' ⟨rfl, rfl⟩)
    go_ret
    exact ⟨rfl, rfl⟩
theorem isKey_yes (s : Int) (w : World) (h0 : 1 ≤ s) (h1 : s ≤ 1000000) :
    Calls Tryz.prog 107 #[.int .i64 s] w fun e w' => e = .returned (.bool true) ∧ w = w' := by
  go_enter Tryz.func107, Tryz.ntmps107
  go_wp2
  go_ret
  exact ⟨rfl, rfl⟩
theorem isKey_no (s : Int) (w : World) (h : s < 1 ∨ 1000000 < s) :
    Calls Tryz.prog 107 #[.int .i64 s] w fun e w' => e = .returned (.bool false) ∧ w = w' := by
  by_cases h0 : 1 ≤ s
  · have h2 : ¬ s ≤ 1000000 := by omega
    clear h
    go_enter Tryz.func107, Tryz.ntmps107
    go_wp2
    go_ret
    exact ⟨rfl, rfl⟩
  · clear h
    go_enter Tryz.func107, Tryz.ntmps107
    go_wp2
    go_ret
    exact ⟨rfl, rfl⟩
theorem anyNegative_no (A : Option Addr) (l : List Int) (cap B : Nat) (w : World) (hn : l.length ≤ maxLen) (hA : Ints w .i64 B A l) (hf : Fine l) :
    Calls Tryz.prog 209 #[.slice A l.length cap] w fun e w' => e = .returned (.bool false) ∧ w = w' := by
  unfold maxLen at hn
  go_enter Tryz.func209, Tryz.ntmps209
  go_wp2
  go_loop [7] (fun i => ∃ k : Nat, k ≤ l.length ∧ i = .int .i64 k) (fun i => l.length - (intOf i).toNat)
  case atStart => exact ⟨0, Nat.zero_le _, rfl⟩
  case round =>
    obtain ⟨k, hk, rfl⟩ := hrel
    by_cases hlt : k < l.length
    · obtain ⟨b, off, rfl, hb, hc⟩ := hA k hlt
      have hv0 := hf k hlt
      generalize l.getD k 0 = v at hc hv0
      clear hA hf
      go_wp2
      go_round
      case rel => exact ⟨k + 1, by omega, by go_num⟩
      case measure => simp [intOf]; omega
    · clear hA hf
      go_wp2
      go_ret
      exact ⟨rfl, rfl⟩
theorem anyNegative_yes (A : Option Addr) (l : List Int) (cap B : Nat) (w : World) (hn : l.length ≤ maxLen) (hA : Ints w .i64 B A l) (hf : ∃ i, i < l.length ∧ l.getD i 0 < 0) :
    Calls Tryz.prog 209 #[.slice A l.length cap] w fun e w' => e = .returned (.bool true) ∧ w = w' := by
  unfold maxLen at hn
  obtain ⟨j, hj, hjv⟩ := hf
  go_enter Tryz.func209, Tryz.ntmps209
  go_wp2
  go_loop [7] (fun i => ∃ k : Nat, k ≤ j ∧ i = .int .i64 k) (fun i => l.length - (intOf i).toNat)
  case atStart => exact ⟨0, Nat.zero_le _, rfl⟩
  case round =>
    obtain ⟨k, hk, rfl⟩ := hrel
    have hlt : k < l.length := by omega
    obtain ⟨b, off, rfl, hb, hc⟩ := hA k hlt
    clear hA
    by_cases hkj : k = j
    · subst hkj
      generalize l.getD k 0 = v at hc hjv
      go_wp2
      go_ret
      exact ⟨rfl, rfl⟩
    · have hkj' : k < j := by omega
      clear hkj hjv
      generalize l.getD k 0 = v at hc
      by_cases hv : v < 0
      · go_wp2
        go_ret
        exact ⟨rfl, rfl⟩
      · go_wp2
        go_round
        case rel => exact ⟨k + 1, by omega, by go_num⟩
        case measure => simp [intOf]; omega
theorem rolled_x (s : Int) (A : Option Addr) (l : List Int) (cap B : Nat) (w : World) (hn : l.length ≤ maxLen) (hA : Ints w .i64 B A l) (hf : Fine l) (hi : I64s l) (s0 : 0 ≤ s) (s1 : s ≤ 2147483628) :
    Calls Tryz.prog 210 #[.int .i64 s, .int .i64 131, .int .i64 2147483647, .slice A l.length cap] w fun e w' => e = .returned (.int .i64 (roll 131 2147483647 s l)) ∧ w = w' := by
  unfold maxLen at hn
  go_enter Tryz.func210, Tryz.ntmps210
  go_wp2
  go_loop [9, 15] (fun r i => ∃ k : Nat, k ≤ l.length ∧ i = .int .i64 k ∧ r = .int .i64 (roll 131 2147483647 s (l.take k))) (fun _ i => l.length - (intOf i).toNat)
  case atStart => exact ⟨0, Nat.zero_le _, rfl, rfl⟩
  case round =>
    obtain ⟨k, hk, rfl, rfl⟩ := hrel
    by_cases hlt : k < l.length
    · obtain ⟨b, off, rfl, hb, hc⟩ := hA k hlt
      have hv0 := hf k hlt
      have hv1 := (hi k hlt).2
      have hR := roll_bd 131 2147483647 s (l.take k) (by omega) s0 (by omega)
      have hst := roll_take 131 2147483647 s l k hlt
      have HS := Lib.hid hst
      clear hst hA hf hi
      generalize l.getD k 0 = v at hc hv0 hv1 HS
      generalize roll 131 2147483647 s (l.take k) = R at hR HS
      obtain ⟨hR0, hR1⟩ := hR
      go_wp2
      go_round
      case rel => exact ⟨k + 1, by omega, by go_num, by rw [HS.out]⟩
      case measure => simp [intOf]; omega
    · have hk' : k = l.length := by omega
      clear hA hf hi
      have HR : roll 131 2147483647 s (l.take k) = roll 131 2147483647 s l := by rw [hk', roll_all]
      rw [HR]; clear HR
      go_wp2
      go_ret
      exact ⟨rfl, rfl⟩
theorem rolled_y (s : Int) (A : Option Addr) (l : List Int) (cap B : Nat) (w : World) (hn : l.length ≤ maxLen) (hA : Ints w .i64 B A l) (hf : Fine l) (hi : I64s l) (s0 : 0 ≤ s) (s1 : s ≤ 2147483628) :
    Calls Tryz.prog 210 #[.int .i64 s, .int .i64 137, .int .i64 2147483629, .slice A l.length cap] w fun e w' => e = .returned (.int .i64 (roll 137 2147483629 s l)) ∧ w = w' := by
  unfold maxLen at hn
  go_enter Tryz.func210, Tryz.ntmps210
  go_wp2
  go_loop [9, 15] (fun r i => ∃ k : Nat, k ≤ l.length ∧ i = .int .i64 k ∧ r = .int .i64 (roll 137 2147483629 s (l.take k))) (fun _ i => l.length - (intOf i).toNat)
  case atStart => exact ⟨0, Nat.zero_le _, rfl, rfl⟩
  case round =>
    obtain ⟨k, hk, rfl, rfl⟩ := hrel
    by_cases hlt : k < l.length
    · obtain ⟨b, off, rfl, hb, hc⟩ := hA k hlt
      have hv0 := hf k hlt
      have hv1 := (hi k hlt).2
      have hR := roll_bd 137 2147483629 s (l.take k) (by omega) s0 (by omega)
      have hst := roll_take 137 2147483629 s l k hlt
      have HS := Lib.hid hst
      clear hst hA hf hi
      generalize l.getD k 0 = v at hc hv0 hv1 HS
      generalize roll 137 2147483629 s (l.take k) = R at hR HS
      obtain ⟨hR0, hR1⟩ := hR
      go_wp2
      go_round
      case rel => exact ⟨k + 1, by omega, by go_num, by rw [HS.out]⟩
      case measure => simp [intOf]; omega
    · have hk' : k = l.length := by omega
      clear hA hf hi
      have HR : roll 137 2147483629 s (l.take k) = roll 137 2147483629 s l := by rw [hk', roll_all]
      rw [HR]; clear HR
      go_wp2
      go_ret
      exact ⟨rfl, rfl⟩
theorem mixed_calls (key : Int) (A : Option Addr) (l : List Int) (cap B : Nat) (w : World) (hn : l.length ≤ maxLen) (hA : Ints w .i64 B A l) (hi : I64s l) :
    Calls Tryz.prog 177 (pA key A l.length cap) w fun e w' => e = .returned (.int .i64 (mixOf key l)) ∧ w = w' := by
  by_cases hk : 1 ≤ key ∧ key ≤ 1000000
  · obtain ⟨k0, k1⟩ := hk
    by_cases hf : Fine l
    · rw [mixOf_yes k0 k1 hf]
      have X := roll_bd 131 2147483647 (7 + key) l (by omega) (by omega) (by omega)
      have Y := roll_bd 137 2147483629 (11 + 2 * key) l (by omega) (by omega) (by omega)
      have C1 := Lib.hid (fun w h => rolled_x (7 + key) A l cap B w hn h hf hi (by omega) (by omega))
      have C2 := Lib.hid (fun w h => rolled_y (11 + 2 * key) A l cap B w hn h hf hi (by omega) (by omega))
      have C0 := Lib.hid (anyNegative_no A l cap B w hn hA hf)
      have HA := Lib.hid hA
      clear hA hf hi hn
      generalize roll 131 2147483647 (7 + key) l = x at X C1
      generalize roll 137 2147483629 (11 + 2 * key) l = y at Y C2
      obtain ⟨x0, x1⟩ := X
      obtain ⟨y0, y1⟩ := Y
      go_enter Tryz.func177, Tryz.ntmps177
      go_wp2_with fail
      refine (isKey_yes _ _ k0 k1).mono ?_; rintro e w' ⟨rfl, rfl⟩
      go_wp2_with fail
      refine C0.out.mono ?_; rintro e w' ⟨rfl, rfl⟩
      go_wp2_with fail
      refine (C1.out _ HA.out).mono ?_; rintro e w' ⟨rfl, rfl⟩
      go_wp2_with fail
      refine (C2.out _ HA.out).mono ?_; rintro e w' ⟨rfl, rfl⟩
      go_wp2
      go_ret
      exact ⟨rfl, rfl⟩
    · rw [mixOf_neg hf]
      have hf' := not_fine hf
      have C0 := Lib.hid (anyNegative_yes A l cap B w hn hA hf')
      clear hA hf hi hn hf'
      go_enter Tryz.func177, Tryz.ntmps177
      go_wp2_with fail
      refine (isKey_yes _ _ k0 k1).mono ?_; rintro e w' ⟨rfl, rfl⟩
      go_wp2_with fail
      refine C0.out.mono ?_; rintro e w' ⟨rfl, rfl⟩
      go_wp2
      go_ret
      exact ⟨rfl, rfl⟩
  · have hk' : key < 1 ∨ 1000000 < key := by omega
    rw [mixOf_key hk']
    clear hA hi hn hk
    go_enter Tryz.func177, Tryz.ntmps177
    go_wp2_with fail
    refine (isKey_no _ _ hk').mono ?_; rintro e w' ⟨rfl, rfl⟩
    go_wp2
    go_ret
    exact ⟨rfl, rfl⟩
theorem l1Key_yes (s : Int) (w : World) (h0 : 1 ≤ s) (h1 : s ≤ 1000000) :
    Calls Tryz.prog 117 #[.int .i64 s] w fun e w' => e = .returned (.bool true) ∧ w = w' := by
  go_enter Tryz.func117, Tryz.ntmps117
  go_wp2_with (go_at_call 69; refine (l1In_yes _ _ _ _ h0 h1).mono ?_; rintro e w' ⟨rfl, rfl⟩)
  go_ret
  exact ⟨rfl, rfl⟩
theorem l1Key_no (s : Int) (w : World) (h : s < 1 ∨ 1000000 < s) :
    Calls Tryz.prog 117 #[.int .i64 s] w fun e w' => e = .returned (.bool false) ∧ w = w' := by
  go_enter Tryz.func117, Tryz.ntmps117
  go_wp2_with (go_at_call 69; refine (l1In_no _ _ _ _ h).mono ?_; rintro e w' ⟨rfl, rfl⟩)
  go_ret
  exact ⟨rfl, rfl⟩
theorem specMix_fine (key : Int) (A : Option Addr) (l : List Int) (cap B : Nat) (w : World) (hn : l.length ≤ maxLen) (hA : Ints w .i64 B A l) (hi : I64s l) (hf : Fine l) (k0 : 1 ≤ key) (k1 : key ≤ 1000000) :
    Calls Tryz.prog 181 (pA key A l.length cap) w fun e w' => e = .returned (.int .i64 (mixOf key l)) ∧ w = w' := by
  unfold maxLen at hn
  rw [mixOf_yes k0 k1 hf]
  have FX := roll_bd 131 2147483647 (7 + key) l (by omega) (by omega) (by omega)
  have FY := roll_bd 137 2147483629 (11 + 2 * key) l (by omega) (by omega) (by omega)
  generalize hx : roll 131 2147483647 (7 + key) l = x at FX
  generalize hy : roll 137 2147483629 (11 + 2 * key) l = y at FY
  have HX := Lib.hid hx
  have HY := Lib.hid hy
  clear hx hy
  obtain ⟨fx0, fx1⟩ := FX
  obtain ⟨fy0, fy1⟩ := FY
  go_enter Tryz.func181, Tryz.ntmps181
  go_wp2_with (go_at_call 117; refine (l1Key_yes _ _ k0 k1).mono ?_; rintro e w' ⟨rfl, rfl⟩)
  go_loop [5, 6, 7] (fun x y i => ∃ k : Nat, k ≤ l.length ∧ i = .int .i64 k ∧ x = .int .i64 (roll 131 2147483647 (7 + key) (l.take k)) ∧ y = .int .i64 (roll 137 2147483629 (11 + 2 * key) (l.take k))) (fun _ _ i => l.length - (intOf i).toNat)
  case atStart => exact ⟨0, Nat.zero_le _, rfl, rfl, rfl⟩
  case round =>
    obtain ⟨k, hk, rfl, rfl, rfl⟩ := hrel
    have X := roll_bd 131 2147483647 (7 + key) (l.take k) (by omega) (by omega) (by omega)
    have Y := roll_bd 137 2147483629 (11 + 2 * key) (l.take k) (by omega) (by omega) (by omega)
    by_cases hlt : k < l.length
    · obtain ⟨b, off, rfl, hb, hc⟩ := hA k hlt
      have hv0 := hf k hlt
      have hv1 := (hi k hlt).2
      have HS := Lib.hid (roll_take 131 2147483647 (7 + key) l k hlt)
      have HT := Lib.hid (roll_take 137 2147483629 (11 + 2 * key) l k hlt)
      clear hA hf hi
      generalize l.getD k 0 = v at hc hv0 hv1 HS HT
      generalize roll 131 2147483647 (7 + key) (l.take k) = x at X HS
      generalize roll 137 2147483629 (11 + 2 * key) (l.take k) = y at Y HT
      obtain ⟨x0, x1⟩ := X
      obtain ⟨y0, y1⟩ := Y
      go_wp2
      go_round
      case rel => exact ⟨k + 1, by omega, by go_num, by rw [HS.out]; go_num, by rw [HT.out]; go_num⟩
      case measure => simp [intOf]; omega
    · have hk' : k = l.length := by omega
      clear hA hf hi
      have HR : roll 131 2147483647 (7 + key) (l.take k) = x := by rw [hk', roll_all]; exact HX.out
      have HQ : roll 137 2147483629 (11 + 2 * key) (l.take k) = y := by rw [hk', roll_all]; exact HY.out
      rw [HR, HQ]
      clear HR HQ X Y
      go_wp2
      go_ret
      exact ⟨rfl, rfl⟩
theorem specMix_neg (key : Int) (A : Option Addr) (l : List Int) (cap B : Nat) (w : World) (hn : l.length ≤ maxLen) (hA : Ints w .i64 B A l) (hf : ∃ i, i < l.length ∧ l.getD i 0 < 0) (k0 : 1 ≤ key) (k1 : key ≤ 1000000) :
    Calls Tryz.prog 181 (pA key A l.length cap) w fun e w' => e = .returned (.int .i64 (-1)) ∧ w = w' := by
  unfold maxLen at hn
  obtain ⟨j, hj, hjv⟩ := hf
  go_enter Tryz.func181, Tryz.ntmps181
  go_wp2_with (go_at_call 117; refine (l1Key_yes _ _ k0 k1).mono ?_; rintro e w' ⟨rfl, rfl⟩)
  go_loop [5, 6, 7] (fun x y i => ∃ k : Nat, k ≤ j ∧ i = .int .i64 k ∧ (∃ X, x = .int .i64 X) ∧ (∃ Y, y = .int .i64 Y)) (fun _ _ i => l.length - (intOf i).toNat)
  case atStart => exact ⟨0, Nat.zero_le _, rfl, ⟨_, rfl⟩, ⟨_, rfl⟩⟩
  case round =>
    obtain ⟨k, hk, rfl, ⟨X, rfl⟩, ⟨Y, rfl⟩⟩ := hrel
    have hlt : k < l.length := by omega
    obtain ⟨b, off, rfl, hb, hc⟩ := hA k hlt
    clear hA
    by_cases hkj : k = j
    · subst hkj
      generalize l.getD k 0 = v at hc hjv
      go_wp2
      go_ret
      exact ⟨rfl, rfl⟩
    · have hkj' : k < j := by omega
      clear hkj hjv
      generalize l.getD k 0 = v at hc
      by_cases hv : v < 0
      · go_wp2
        go_ret
        exact ⟨rfl, rfl⟩
      · go_wp2
        go_round
        case rel => exact ⟨k + 1, by omega, by go_num, ⟨_, rfl⟩, ⟨_, rfl⟩⟩
        case measure => simp [intOf]; omega
theorem specMix_calls (key : Int) (A : Option Addr) (l : List Int) (cap B : Nat) (w : World) (hn : l.length ≤ maxLen) (hA : Ints w .i64 B A l) (hi : I64s l) :
    Calls Tryz.prog 181 (pA key A l.length cap) w fun e w' => e = .returned (.int .i64 (mixOf key l)) ∧ w = w' := by
  by_cases hk : 1 ≤ key ∧ key ≤ 1000000
  · obtain ⟨k0, k1⟩ := hk
    by_cases hf : Fine l
    · exact specMix_fine key A l cap B w hn hA hi hf k0 k1
    · rw [mixOf_neg hf]
      exact specMix_neg key A l cap B w hn hA (not_fine hf) k0 k1
  · have hk' : key < 1 ∨ 1000000 < key := by omega
    rw [mixOf_key hk']
    clear hA hi hn hk
    go_enter Tryz.func181, Tryz.ntmps181
    go_wp2_with (go_at_call 117; refine (l1Key_no _ _ hk').mono ?_; rintro e w' ⟨rfl, rfl⟩)
    go_ret
    exact ⟨rfl, rfl⟩
def I64 (x : Int) : Prop := -9223372036854775808 ≤ x ∧ x ≤ 9223372036854775807
noncomputable def streamOf (key at_ time : Int) : Int := if mixOf key [1, at_, time] < 0 then -1 else mixOf key [1, at_, time] % 10007
def isVal (v : Int) : Prop := 0 ≤ v ∧ v ≤ 10006
theorem i64s_three {x y z : Int} (a : I64 x) (b : I64 y) (c : I64 z) : I64s [x, y, z] := I64s.cons a.1 a.2 (I64s.cons b.1 b.2 (I64s.cons c.1 c.2 I64s.nil))
theorem mixOf_bd (key : Int) (l : List Int) : -1 ≤ mixOf key l ∧ mixOf key l ≤ 4611686018427387903 := by
  by_cases hk : 1 ≤ key ∧ key ≤ 1000000
  · by_cases hf : Fine l
    · rw [mixOf_yes hk.1 hk.2 hf]
      have X := roll_bd 131 2147483647 (7 + key) l (by omega) (by omega) (by omega)
      have Y := roll_bd 137 2147483629 (11 + 2 * key) l (by omega) (by omega) (by omega)
      omega
    · rw [mixOf_neg hf]; omega
  · rw [mixOf_key (by omega)]; omega
theorem mixOf_nat {key : Int} {l : List Int} (h0 : 1 ≤ key) (h1 : key ≤ 1000000) (hf : Fine l) : 0 ≤ mixOf key l := by
  rw [mixOf_yes h0 h1 hf]
  have X := roll_bd 131 2147483647 (7 + key) l (by omega) (by omega) (by omega)
  have Y := roll_bd 137 2147483629 (11 + 2 * key) l (by omega) (by omega) (by omega)
  omega
theorem streamOf_bd (key at_ time : Int) : -1 ≤ streamOf key at_ time ∧ streamOf key at_ time ≤ 10006 := by
  unfold streamOf
  split <;> omega
theorem fine_three {x y z : Int} (hx : 0 ≤ x) (hy : 0 ≤ y) (hz : 0 ≤ z) : Fine [x, y, z] := by
  intro i hi
  match i, hi with
  | 0, _ => exact hx
  | 1, _ => exact hy
  | 2, _ => exact hz
theorem streamOf_nat {key at_ time : Int} (h0 : 1 ≤ key) (h1 : key ≤ 1000000) (ha : 0 ≤ at_) (ht : 0 ≤ time) : 0 ≤ streamOf key at_ time := by
  have := mixOf_nat h0 h1 (fine_three (x := 1) (by omega) ha ht)
  unfold streamOf
  rw [if_neg (by omega)]; omega
theorem isValue_yes (s : Int) (w : World) (h : isVal s) :
    Calls Tryz.prog 38 #[.int .i64 s] w fun e w' => e = .returned (.bool true) ∧ w = w' := by
  obtain ⟨h0, h1⟩ := h
  have h2 : s < 10007 := by omega
  go_enter Tryz.func38, Tryz.ntmps38
  go_wp2
  go_ret
  exact ⟨rfl, rfl⟩
theorem isValue_no (s : Int) (w : World) (h : ¬ isVal s) :
    Calls Tryz.prog 38 #[.int .i64 s] w fun e w' => e = .returned (.bool false) ∧ w = w' := by
  unfold isVal at h
  by_cases h0 : 0 ≤ s
  · have h2 : ¬ s < 10007 := by omega
    clear h
    go_enter Tryz.func38, Tryz.ntmps38
    go_wp2
    go_ret
    exact ⟨rfl, rfl⟩
  · clear h
    go_enter Tryz.func38, Tryz.ntmps38
    go_wp2
    go_ret
    exact ⟨rfl, rfl⟩
theorem l2Value_yes (s : Int) (w : World) (h : isVal s) :
    Calls Tryz.prog 98 #[.int .i64 s] w fun e w' => e = .returned (.bool true) ∧ w = w' := by
  obtain ⟨h0, h1⟩ := h
  go_enter Tryz.func98, Tryz.ntmps98
  go_wp2_with (go_at_call 69; refine (l1In_yes _ _ _ _ h0 h1).mono ?_; rintro e w' ⟨rfl, rfl⟩)
  go_ret
  exact ⟨rfl, rfl⟩
theorem l2Value_no (s : Int) (w : World) (h : ¬ isVal s) :
    Calls Tryz.prog 98 #[.int .i64 s] w fun e w' => e = .returned (.bool false) ∧ w = w' := by
  unfold isVal at h
  have h' : s < 0 ∨ 10006 < s := by omega
  clear h
  go_enter Tryz.func98, Tryz.ntmps98
  go_wp2_with (go_at_call 69; refine (l1In_no _ _ _ _ h').mono ?_; rintro e w' ⟨rfl, rfl⟩)
  go_ret
  exact ⟨rfl, rfl⟩
theorem mixed_three (key x y z : Int) (g : Nat) (w : World) (hg : w.heap.size = g) (a : I64 x) (b : I64 y) (c : I64 z) :
    Calls Tryz.prog 177 (pA key (some ⟨g, 0, none⟩) 3 3) (w.alloc (.cells #[.int .i64 x, .int .i64 y, .int .i64 z] 2)) fun e w' => e = .returned (.int .i64 (mixOf key [x, y, z])) ∧ w.alloc (.cells #[.int .i64 x, .int .i64 y, .int .i64 z] 2) = w' := by
  subst hg
  exact mixed_calls key (some ⟨w.heap.size, 0, none⟩) [x, y, z] 3 (w.heap.size + 1) _ (by simp [maxLen]) (CellsAt.reads [x, y, z] (CellsAt.new w 2 _)) (i64s_three a b c)
theorem specMix_three (key x y z : Int) (g : Nat) (w : World) (hg : w.heap.size = g) (a : I64 x) (b : I64 y) (c : I64 z) :
    Calls Tryz.prog 181 (pA key (some ⟨g, 0, none⟩) 3 3) (w.alloc (.cells #[.int .i64 x, .int .i64 y, .int .i64 z] 2)) fun e w' => e = .returned (.int .i64 (mixOf key [x, y, z])) ∧ w.alloc (.cells #[.int .i64 x, .int .i64 y, .int .i64 z] 2) = w' := by
  subst hg
  exact specMix_calls key (some ⟨w.heap.size, 0, none⟩) [x, y, z] 3 (w.heap.size + 1) _ (by simp [maxLen]) (CellsAt.reads [x, y, z] (CellsAt.new w 2 _)) (i64s_three a b c)
theorem one_i64 : I64 1 := ⟨by omega, by omega⟩
theorem stream_calls (key at_ time : Int) (w : World) (ha : I64 at_) (ht : I64 time) :
    Calls Tryz.prog 240 #[.int .i64 key, .int .i64 at_, .int .i64 time] w fun e w' => e = .returned (.int .i64 (streamOf key at_ time)) ∧ Below w.heap.size w w' := by
  have C := Lib.hid (fun g w hg => mixed_three key 1 at_ time g w hg one_i64 ha ht)
  have M := mixOf_bd key [1, at_, time]
  unfold streamOf
  clear ha ht
  generalize mixOf key [1, at_, time] = m at C M
  obtain ⟨m0, m1⟩ := M
  by_cases hm : m < 0
  · rw [if_pos hm]
    go_enter Tryz.func240, Tryz.ntmps240
    go_wp2_with fail
    refine (C.out _ _ ?_).mono ?_; (first | rfl | simp); rintro e w7 ⟨rfl, h7⟩
    subst h7
    go_wp2_with fail
    go_ret
    exact ⟨rfl, (Below.refl _ _).alloc (Nat.le_refl _) _⟩
  · rw [if_neg hm]
    go_enter Tryz.func240, Tryz.ntmps240
    go_wp2_with fail
    refine (C.out _ _ ?_).mono ?_; (first | rfl | simp); rintro e w7 ⟨rfl, h7⟩
    subst h7
    go_wp2_with fail
    go_ret
    exact ⟨rfl, (Below.refl _ _).alloc (Nat.le_refl _) _⟩
theorem specStream_calls (key at_ time : Int) (w : World) (ha : I64 at_) (ht : I64 time) :
    Calls Tryz.prog 211 #[.int .i64 key, .int .i64 at_, .int .i64 time] w fun e w' => e = .returned (.int .i64 (streamOf key at_ time)) ∧ Below w.heap.size w w' := by
  have C := Lib.hid (fun g w hg => specMix_three key 1 at_ time g w hg one_i64 ha ht)
  have M := mixOf_bd key [1, at_, time]
  unfold streamOf
  clear ha ht
  generalize mixOf key [1, at_, time] = m at C M
  obtain ⟨m0, m1⟩ := M
  by_cases hm : m < 0
  · rw [if_pos hm]
    go_enter Tryz.func211, Tryz.ntmps211
    go_wp2_with fail
    refine (C.out _ _ ?_).mono ?_; (first | rfl | simp); rintro e w7 ⟨rfl, h7⟩
    subst h7
    go_wp2_with fail
    go_ret
    exact ⟨rfl, (Below.refl _ _).alloc (Nat.le_refl _) _⟩
  · rw [if_neg hm]
    go_enter Tryz.func211, Tryz.ntmps211
    go_wp2_with fail
    refine (C.out _ _ ?_).mono ?_; (first | rfl | simp); rintro e w7 ⟨rfl, h7⟩
    subst h7
    go_wp2_with fail
    go_ret
    exact ⟨rfl, (Below.refl _ _).alloc (Nat.le_refl _) _⟩
end Go.Proofs.YtgaecedhkbneaaaGreatDoor.Mx

/- PLAIN WORDS FOR MEMORY, no program in sight: a slice that reads as a list of integers, the nil slice let in; the fold of chapter 1 and its bounds. -/
import Derived.WalkKit
import Derived.ProofKit
import Derived.Below
import Derived.IntWalk
import Derived.Deep.Draws
import Derived.Laws.Rows
namespace Go.Proofs.Ythbkccagpggljaa.Mx
open Go.RowKit
set_option linter.unusedVariables false

/-- 'Ints w k B A l': a slice at address A of length l.length reads as l, and lies below block B. -/
def Ints (w : World) (k : IntKind) (B : Nat) (A : Option Addr) (l : List Int) : Prop :=
  ∀ i, i < l.length → ∃ b off, A = some ⟨b, off, none⟩ ∧ b < B ∧ w.cell? ⟨b, off + i, none⟩ = some (.int k (l.getD i 0))

theorem Ints.below {w w' : World} {k : IntKind} {B B' : Nat} {A : Option Addr} {l : List Int} (h : Ints w k B A l) (hb : Below B' w w') (hB : B ≤ B') : Ints w' k B A l := by
  intro i hi
  obtain ⟨b, off, rfl, hlt, hc⟩ := h i hi
  exact ⟨b, off, rfl, hlt, (hb.cell (p := ⟨b, off + i, none⟩) (Nat.lt_of_lt_of_le hlt hB)).trans hc⟩

theorem Ints.more {w : World} {k : IntKind} {B B' : Nat} {A : Option Addr} {l : List Int} (h : Ints w k B A l) (hB : B ≤ B') : Ints w k B' A l := by
  intro i hi
  obtain ⟨b, off, rfl, hlt, hc⟩ := h i hi
  exact ⟨b, off, rfl, by omega, hc⟩

theorem Ints.nil {w : World} {k : IntKind} {B : Nat} {A : Option Addr} : Ints w k B A [] := by
  intro i hi; simp at hi

/-- Each number of the list fits an int64 and is not below 0. -/
def Fine (l : List Int) : Prop := ∀ i, i < l.length → 0 ≤ l.getD i 0
/-- Each number of the list fits an int64. -/
def I64s (l : List Int) : Prop := ∀ i, i < l.length → -9223372036854775808 ≤ l.getD i 0 ∧ l.getD i 0 ≤ 9223372036854775807

def roll (f m s : Int) (l : List Int) : Int := l.foldl (fun s n => (s * f + n % m + 1) % m) s

theorem roll_take (f m s : Int) (l : List Int) (k : Nat) (h : k < l.length) : roll f m s (l.take (k + 1)) = (roll f m s (l.take k) * f + l.getD k 0 % m + 1) % m := by
  unfold roll
  rw [List.take_succ_eq_append_getElem h, List.foldl_append]
  simp [List.getD_eq_getElem?_getD, h]

theorem roll_bd (f m s : Int) (l : List Int) (hm : 0 < m) (h0 : 0 ≤ s) (h1 : s < m) : 0 ≤ roll f m s l ∧ roll f m s l < m := by
  unfold roll
  induction l generalizing s with
  | nil => exact ⟨h0, h1⟩
  | cons a l ih => exact ih _ (Int.emod_nonneg _ (by omega)) (Int.emod_lt_of_pos _ hm)

theorem roll_all (f m s : Int) (l : List Int) : roll f m s (l.take l.length) = roll f m s l := by rw [List.take_length]

open Classical in
/-- What chapter 1 asks of MixOf. -/
noncomputable def mixOf (key : Int) (l : List Int) : Int :=
  if (1 ≤ key ∧ key ≤ 1000000) ∧ Fine l then roll 131 2147483647 (7 + key) l * 2147483648 + roll 137 2147483629 (11 + 2 * key) l else -1

theorem mixOf_yes {key : Int} {l : List Int} (h0 : 1 ≤ key) (h1 : key ≤ 1000000) (hf : Fine l) : mixOf key l = roll 131 2147483647 (7 + key) l * 2147483648 + roll 137 2147483629 (11 + 2 * key) l := by
  unfold mixOf; rw [if_pos ⟨⟨h0, h1⟩, hf⟩]
theorem mixOf_key {key : Int} {l : List Int} (h : key < 1 ∨ 1000000 < key) : mixOf key l = -1 := by
  unfold mixOf; rw [if_neg (by omega)]
theorem mixOf_neg {key : Int} {l : List Int} (h : ¬ Fine l) : mixOf key l = -1 := by
  unfold mixOf; rw [if_neg (fun h' => h h'.2)]
theorem not_fine {l : List Int} (h : ¬ Fine l) : ∃ i, i < l.length ∧ l.getD i 0 < 0 := by
  refine Classical.byContradiction fun hn => h fun i hi => ?_
  refine Classical.byContradiction fun hc => hn ⟨i, hi, by omega⟩

/-- 'x & m', m a small number: from 0 to m. -/
theorem and_bd_i64 (x : Int) (m : Nat) (hm : m < 4294967296) : 0 ≤ bits .and .i64 x m ∧ bits .and .i64 x m ≤ m := by
  have hle : (BitVec.ofInt 64 x &&& BitVec.ofInt 64 (m : Int)).toNat ≤ m := by
    rw [BitVec.toNat_and]
    refine Nat.le_trans Nat.and_le_right ?_
    rw [BitVec.toNat_ofInt]; omega
  have e : bits .and .i64 x m = IntKind.wrap .i64 ((BitVec.ofInt 64 x &&& BitVec.ofInt 64 (m : Int)).toNat : Int) := rfl
  rw [e]
  generalize (BitVec.ofInt 64 x &&& BitVec.ofInt 64 (m : Int)).toNat = t at hle
  rw [IntWalk.i64_in _ (by omega)]
  omega
theorem and_bd_u64 (x : Int) (m : Nat) (hm : m < 4294967296) : 0 ≤ bits .and .u64 x m ∧ bits .and .u64 x m ≤ m := by
  have hle : (BitVec.ofInt 64 x &&& BitVec.ofInt 64 (m : Int)).toNat ≤ m := by
    rw [BitVec.toNat_and]
    refine Nat.le_trans Nat.and_le_right ?_
    rw [BitVec.toNat_ofInt]; omega
  have e : bits .and .u64 x m = IntKind.wrap .u64 ((BitVec.ofInt 64 x &&& BitVec.ofInt 64 (m : Int)).toNat : Int) := rfl
  rw [e]
  generalize (BitVec.ofInt 64 x &&& BitVec.ofInt 64 (m : Int)).toNat = t at hle
  rw [IntWalk.u64_in _ (by omega)]
  omega

/-! ### Worlds that part in one block -/
theorem gb_refl (w : World) (r : Option Nat) : w.grownBy w r := ⟨rfl, rfl, rfl, Nat.le_refl _, fun _ _ _ => rfl⟩
theorem gb_trans {a b c : World} {r : Option Nat} (h : a.grownBy b r) (k : b.grownBy c r) : a.grownBy c r :=
  ⟨k.os.trans h.os, k.tape.trans h.tape, k.output.trans h.output, Nat.le_trans h.size k.size, fun i hi hr => (k.block i (Nat.lt_of_lt_of_le hi h.size) hr).trans (h.block i hi hr)⟩
theorem gb_set {a b : World} {g : Nat} (h : a.grownBy b (some g)) (j : Nat) (u : Value) : a.grownBy (b.setCell ⟨g, j, none⟩ u) (some g) :=
  gb_trans h ⟨rfl, rfl, rfl, by simp [World.setCell], fun k _ hk => Below.heap_setCell _ _ _ _ (fun e => hk (by rw [e]))⟩
theorem gb_drewN {a b : World} {r : Option Nat} (h : a.grownBy b r) (n : Nat) : a.grownBy (b.drewN n) r := ⟨h.os, h.tape, h.output, h.size, h.block⟩
theorem gb_drew {a b : World} {r : Option Nat} (h : a.grownBy b r) : a.grownBy b.drew r := ⟨h.os, h.tape, h.output, h.size, h.block⟩
theorem gb_alloc {a b : World} {r : Option Nat} (h : a.grownBy b r) (o : Obj) : a.grownBy (b.alloc o) r :=
  gb_trans h ⟨rfl, rfl, rfl, by simp, fun k hk _ => Below.heap_alloc _ _ _ hk⟩
/-- Where the written block is new, nothing that was there has turned. -/
theorem gb_below {a b : World} {g : Nat} (h : a.grownBy b (some g)) (hg : a.heap.size ≤ g) : Below a.heap.size a b :=
  ⟨h.os, h.tape, h.output, h.size, fun k hk => h.block k hk (by intro e; injection e with e; omega)⟩
theorem below_gb {a b : World} (h : Below a.heap.size a b) (r : Option Nat) : a.grownBy b r := ⟨h.os, h.tape, h.output, h.size, fun k hk _ => h.block k hk⟩
theorem bgb {B : Nat} {a b c : World} {g : Nat} (h : Below B a b) (hg : b.grownBy c (some g)) (hB : B ≤ b.heap.size) (hr : B ≤ g) : Below B a c :=
  h.grown hg hB (fun k e => by injection e with e; omega)

/-- Block g is a row of just these cells, of element type t, and a string shares none of them. -/
def CellsAt (w : World) (g : Nat) (t : TypeId) (cs : Array Value) : Prop := w.heap[g]? = some (Obj.cells cs t (0, 0))
namespace CellsAt
variable {w v : World} {g : Nat} {t : TypeId} {cs : Array Value}
theorem lt (h : CellsAt w g t cs) : g < w.heap.size := (Array.getElem?_eq_some_iff.1 h).1
theorem cell (h : CellsAt w g t cs) (i : Nat) : w.cell? ⟨g, i, none⟩ = cs[i]? := by
  have e : w.heap[g]? = some (Obj.cells cs t (0, 0)) := h
  simp [World.cell?, e]
theorem frozen (h : CellsAt w g t cs) (i : Nat) : w.frozen? ⟨g, i, none⟩ = false := by
  have e : w.heap[g]? = some (Obj.cells cs t (0, 0)) := h
  simp [World.frozen?, e]
theorem new (w : World) (t : TypeId) (cs : Array Value) : CellsAt (w.alloc (.cells cs t)) w.heap.size t cs := by
  show (w.heap.push _)[w.heap.size]? = _
  simp
theorem drew (h : CellsAt w g t cs) : CellsAt w.drew g t cs := h
theorem set_ (h : CellsAt w g t cs) (i : Nat) (u : Value) : CellsAt (w.setCell ⟨g, i, none⟩ u) g t (cs.setIfInBounds i u) := heap_setCell_same w g i cs t u h
theorem below {B : Nat} (h : CellsAt w g t cs) (hb : Below B w v) (hg : g < B) : CellsAt v g t cs := by
  show v.heap[g]? = _
  rw [hb.block g hg]; exact h
theorem grown {row : Option Nat} (h : CellsAt w g t cs) (hb : w.grownBy v row) (hg : some g ≠ row) : CellsAt v g t cs := by
  show v.heap[g]? = _
  rw [hb.block g h.lt hg]; exact h
end CellsAt
/-- What a slice reads as, behind a write to another block. -/
theorem Ints.gb {w w' : World} {k : IntKind} {B g : Nat} {A : Option Addr} {l : List Int} (h : Ints w k B A l) (hb : w.grownBy w' (some g)) (hs : B ≤ w.heap.size) (hg : B ≤ g) : Ints w' k B A l := by
  intro i hi
  obtain ⟨b, off, rfl, hlt, hc⟩ := h i hi
  exact ⟨b, off, rfl, hlt, hb.cell hc (by intro e; injection e with e; simp at e; omega)⟩

/-! ### A block of numbers that the call lays itself -/
theorem I64s.nil : I64s [] := by intro i hi; simp at hi
theorem I64s.cons {a : Int} {l : List Int} (h0 : -9223372036854775808 ≤ a) (h1 : a ≤ 9223372036854775807) (h : I64s l) : I64s (a :: l) := by
  intro i hi
  cases i with
  | zero => exact ⟨h0, h1⟩
  | succ j => exact h j (by simpa using hi)
theorem I64s.snoc {a : Int} {l : List Int} (h : I64s l) (h0 : -9223372036854775808 ≤ a) (h1 : a ≤ 9223372036854775807) : I64s (l ++ [a]) := by
  intro i hi
  rw [List.getD_eq_getElem?_getD]
  rcases Nat.lt_or_ge i l.length with hlt | hge
  · rw [List.getElem?_append_left hlt]
    have := h i hlt
    rwa [List.getD_eq_getElem?_getD] at this
  · have : i = l.length := by simp at hi; omega
    subst this
    simp
    exact ⟨h0, h1⟩
theorem CellsAt.ints {w : World} {g : Nat} {t : TypeId} {zs : List Int} (h : CellsAt w g t ((zs.map (Value.int .i64)).toArray)) {k : Nat} (hk : k < zs.length) : w.cell? ⟨g, k, none⟩ = some (.int .i64 (zs.getD k 0)) := by
  rw [h.cell]
  simp [List.getD_eq_getElem?_getD, hk]
theorem CellsAt.some64 {w : World} {g : Nat} {t : TypeId} (zs : List Int) (h : CellsAt w g t ((zs.map (Value.int .i64)).toArray)) (hz : I64s zs) (k : Nat) (hk : k < zs.length) :
    ∃ v, (-9223372036854775808 ≤ v ∧ v ≤ 9223372036854775807) ∧ w.cell? ⟨g, k, none⟩ = some (.int .i64 v) := ⟨_, hz k hk, h.ints hk⟩
theorem CellsAt.reads {w : World} {g : Nat} {t : TypeId} (zs : List Int) (h : CellsAt w g t ((zs.map (Value.int .i64)).toArray)) : Ints w .i64 (g + 1) (some ⟨g, 0, none⟩) zs := by
  intro i hi
  exact ⟨g, 0, rfl, by omega, by rw [Nat.zero_add]; exact h.ints hi⟩

/-! ### A row that the call appends to -/
/-- The slice value v owns, among the blocks from 'base' on, the numbers zs, each an int64. -/
def Row (w : World) (base t : Nat) (v : Value) (zs : List Int) : Prop := w.ownsRow base t 1 v zs.length (zs.map (Value.int .i64)) ∧ I64s zs
theorem Row.grown {w w' : World} {base t g : Nat} {v : Value} {zs : List Int} (h : Row w base t v zs) (hg : w.grownBy w' (some g)) (hb : g < base) : Row w' base t v zs := by
  refine ⟨h.1.kept hg ?_, h.2⟩
  cases e : v.ownBlock with
  | none => exact .inl rfl
  | some k => exact .inr (by intro e2; injection e2 with e2; have := (h.1.lt k e).1; omega)
theorem Row.snoc {w' : World} {base t : Nat} {v : Value} {zs : List Int} {x : Int} (h : I64s zs) (x0 : -9223372036854775808 ≤ x) (x1 : x ≤ 9223372036854775807)
    (hw : w'.ownsRow base t 1 v (zs.length + 1) (zs.map (Value.int .i64) ++ [Value.int .i64 x])) : Row w' base t v (zs ++ [x]) := by
  refine ⟨?_, h.snoc x0 x1⟩
  rw [List.length_append, List.map_append]
  exact hw
theorem Row.reads {w : World} {base t : Nat} {v : Value} {zs : List Int} (h : Row w base t v zs) : ∃ A c, v = .slice A zs.length c ∧ Ints w .i64 w.heap.size A zs := by
  rcases h.1.2 with ⟨rfl, hn⟩ | ⟨g, cap, cur, rfl, hb, hg, hnc, hcm, hcs, htake⟩
  · have : zs = [] := List.length_eq_zero_iff.1 hn
    subst this
    exact ⟨none, 0, rfl, Ints.nil⟩
  · refine ⟨_, cap, rfl, fun i hi => ⟨g, 0, rfl, (Array.getElem?_eq_some_iff.1 hg).1, ?_⟩⟩
    rw [Nat.zero_add, h.1.cellAt i (by omega), List.getElem?_map, List.getElem?_eq_getElem hi, List.getD_eq_getElem?_getD, List.getElem?_eq_getElem hi]
    rfl
/-- A write to blocks from 'base' on alone: what lies below base stands. -/
theorem gr_below {a b : World} {r : Option Nat} {B : Nat} (h : a.grownBy b r) (hB : B ≤ a.heap.size) (hr : ∀ k, r = some k → B ≤ k) : Below B a b :=
  ⟨h.os, h.tape, h.output, h.size, fun k hk => h.block k (by omega) (by intro e; have := hr k e.symm; omega)⟩
end Go.Proofs.Ythbkccagpggljaa.Mx

import Derived.WalkKit
import Derived.ProofKit
import Derived.Below
import Derived.IntWalk
import Derived.Deep.Draws
import Derived.Laws.Rows
import Derived.Lib.Hide
import Derived.Deep.QuietTactic
import Derived.BigQuiet
import Derived.Deep.WholeRow
import Derived.Deep.MidRow
import Derived.Maps.AppendAt
import Derived.Deep.Upon
import Derived.Deep.AppendLies
import Derived.Great.BuildSlice
import Derived.Test.YtgaecedhkbneaaaRows
import Derived.OpenShut
import Derived.Outline
import Derived.Deep.RegionWith
namespace Go.Proofs.Ytgaecedhkbneaaa.Mx
open Go.RowKit
set_option linter.unusedVariables false
def Ints (w : World) (k : IntKind) (B : Nat) (A : Option Addr) (l : List Int) : Prop :=
  ∀ i, i < l.length → ∃ b off, A = some ⟨b, off, none⟩ ∧ b < B ∧ w.cell? ⟨b, off + i, none⟩ = some (.int k (l.getD i 0))
theorem Ints.below {w w' : World} {k : IntKind} {B B' : Nat} {A : Option Addr} {l : List Int} (h : Ints w k B A l) (hb : Below B' w w') (hB : B ≤ B') : Ints w' k B A l := by
  intro i hi
  obtain ⟨b, off, rfl, hlt, hc⟩ := h i hi
  exact ⟨b, off, rfl, hlt, (hb.cell (p := ⟨b, off + i, none⟩) (Nat.lt_of_lt_of_le hlt hB)).trans hc⟩
theorem Ints.more {w : World} {k : IntKind} {B B' : Nat} {A : Option Addr} {l : List Int} (h : Ints w k B A l) (hB : B ≤ B') : Ints w k B' A l := by
  intro i hi
  obtain ⟨b, off, rfl, hlt, hc⟩ := h i hi
  exact ⟨b, off, rfl, by omega, hc⟩
theorem Ints.nil {w : World} {k : IntKind} {B : Nat} {A : Option Addr} : Ints w k B A [] := by
  intro i hi; simp at hi
/-! ### Worlds that part in one block -/
theorem gb_refl (w : World) (r : Option Nat) : w.grownBy w r := ⟨rfl, rfl, rfl, Nat.le_refl _, fun _ _ _ => rfl⟩
theorem gb_trans {a b c : World} {r : Option Nat} (h : a.grownBy b r) (k : b.grownBy c r) : a.grownBy c r :=
  ⟨k.os.trans h.os, k.tape.trans h.tape, k.output.trans h.output, Nat.le_trans h.size k.size, fun i hi hr => (k.block i (Nat.lt_of_lt_of_le hi h.size) hr).trans (h.block i hi hr)⟩
theorem gb_set {a b : World} {g : Nat} (h : a.grownBy b (some g)) (j : Nat) (u : Value) : a.grownBy (b.setCell ⟨g, j, none⟩ u) (some g) :=
  gb_trans h ⟨rfl, rfl, rfl, by simp [World.setCell], fun k _ hk => Below.heap_setCell _ _ _ _ (fun e => hk (by rw [e]))⟩
def CellsAt (w : World) (g : Nat) (t : TypeId) (cs : Array Value) : Prop := w.heap[g]? = some (Obj.cells cs t (0, 0))
namespace CellsAt
variable {w v : World} {g : Nat} {t : TypeId} {cs : Array Value}
theorem lt (h : CellsAt w g t cs) : g < w.heap.size := (Array.getElem?_eq_some_iff.1 h).1
theorem cell (h : CellsAt w g t cs) (i : Nat) : w.cell? ⟨g, i, none⟩ = cs[i]? := by
  have e : w.heap[g]? = some (Obj.cells cs t (0, 0)) := h
  simp [World.cell?, e]
theorem frozen (h : CellsAt w g t cs) (i : Nat) : w.frozen? ⟨g, i, none⟩ = false := by
  have e : w.heap[g]? = some (Obj.cells cs t (0, 0)) := h
  simp [World.frozen?, e]
theorem new (w : World) (t : TypeId) (cs : Array Value) : CellsAt (w.alloc (.cells cs t)) w.heap.size t cs := by
  show (w.heap.push _)[w.heap.size]? = _
  simp
theorem drew (h : CellsAt w g t cs) : CellsAt w.drew g t cs := h
theorem set_ (h : CellsAt w g t cs) (i : Nat) (u : Value) : CellsAt (w.setCell ⟨g, i, none⟩ u) g t (cs.setIfInBounds i u) := heap_setCell_same w g i cs t u h
theorem below {B : Nat} (h : CellsAt w g t cs) (hb : Below B w v) (hg : g < B) : CellsAt v g t cs := by
  show v.heap[g]? = _
  rw [hb.block g hg]; exact h
theorem grown {row : Option Nat} (h : CellsAt w g t cs) (hb : w.grownBy v row) (hg : some g ≠ row) : CellsAt v g t cs := by
  show v.heap[g]? = _
  rw [hb.block g h.lt hg]; exact h
end CellsAt
/-! ### A block of numbers that the call lays itself -/
/-! ### A row that the call appends to -/
end Go.Proofs.Ytgaecedhkbneaaa.Mx
namespace Go.Proofs.Ytgaecedhkbneaaa.Mx
open Go.RowKit
set_option linter.unusedVariables false
abbrev Box := Nat × TypeId × Array Value
def Kept (b : World) (L : List Box) (w : World) : Prop := Below b.heap.size b w ∧ ∀ x ∈ L, b.heap.size ≤ x.1 ∧ CellsAt w x.1 x.2.1 x.2.2
namespace Kept
variable {b u w : World} {L : List Box} {g p : Nat} {t : TypeId} {cs : Array Value}
theorem refl (b : World) : Kept b [] b := ⟨Below.refl _ _, fun x hx => by cases hx⟩
theorem below (h : Kept b L u) (hb : Below u.heap.size u w) : Kept b L w := ⟨h.1.trans (hb.mono h.1.size), fun x hx => ⟨(h.2 x hx).1, (h.2 x hx).2.below hb (h.2 x hx).2.lt⟩⟩
theorem alloc (h : Kept b L w) (o : Obj) : Kept b L (w.alloc o) := h.below ((Below.refl _ _).alloc (Nat.le_refl _) _)
theorem new (h : Kept b L w) (t : TypeId) (cs : Array Value) : Kept b ((w.heap.size, t, cs) :: L) (w.alloc (.cells cs t)) := by
  refine ⟨(h.alloc _).1, fun x hx => ?_⟩
  rcases List.mem_cons.1 hx with rfl | hx
  · exact ⟨h.1.size, CellsAt.new w t cs⟩
  · exact (h.alloc _).2 x hx
theorem drew (h : Kept b L w) : Kept b L w.drew := ⟨h.1.drew, h.2⟩
theorem tail {x : Box} (h : Kept b (x :: L) w) : Kept b L w := ⟨h.1, fun y hy => h.2 y (List.mem_cons_of_mem _ hy)⟩
theorem sub {L' : List Box} (h : Kept b L w) (hs : ∀ x ∈ L', x ∈ L) : Kept b L' w := ⟨h.1, fun y hy => h.2 y (hs y hy)⟩
theorem set (h : Kept b ((p, t, cs) :: L) w) (hne : ∀ x ∈ L, x.1 ≠ p) (i : Nat) (v : Value) : Kept b ((p, t, cs.setIfInBounds i v) :: L) (w.setCell ⟨p, i, none⟩ v) := by
  have hp := h.2 _ (List.mem_cons_self ..)
  refine ⟨h.1.setCell hp.1 _, fun x hx => ?_⟩
  rcases List.mem_cons.1 hx with rfl | hx
  · exact ⟨hp.1, hp.2.set_ i v⟩
  · exact ⟨(h.2 x (List.mem_cons_of_mem _ hx)).1, (h.2 x (List.mem_cons_of_mem _ hx)).2.grown (gb_set (gb_refl w (some p)) i v) (by intro e; injection e with e; exact hne x hx e)⟩
theorem at_ (h : Kept b L w) (hm : (p, t, cs) ∈ L) : CellsAt w p t cs := (h.2 _ hm).2
theorem cell (h : Kept b L w) (hm : (p, t, cs) ∈ L) (i : Nat) : w.cell? ⟨p, i, none⟩ = cs[i]? := (h.2 _ hm).2.cell i
theorem frozen (h : Kept b L w) (hm : (p, t, cs) ∈ L) (i : Nat) : w.frozen? ⟨p, i, none⟩ = false := (h.2 _ hm).2.frozen i
theorem lt (h : Kept b L w) {x : Box} (hx : x ∈ L) : x.1 < w.heap.size := (h.2 x hx).2.lt
end Kept
end Go.Proofs.Ytgaecedhkbneaaa.Mx
namespace Go.Proofs.Ytgaecedhkbneaaa.Mx
open Go.RowKit
set_option linter.unusedVariables false
theorem wp_region_class {P : Program} {C : World → Prop} {id : Nat} {Q : Exit → Act → World → Prop} {a : Act} {w : World} {l : List Oper} (hm : P.follows .mixedOrders = true) (hB : Region.lexB .any l.toArray = true) (hC : C w.drew)
    (h : wpQuiet P l.toArray C (fun a' => ∀ w', C w' → Q .normal a' w') l a) : (Code.region id l.toArray true).wp P Q a w :=
  wp_region_quiet (C := C) hm hB hC (by simpa using h)
theorem class_same {P : Program} {C : World → Prop} {f : FuncId} {args : Array Value} {u : World} {v : Value} (hu : C u) (h : Calls P f args u fun e w' => e = .returned v ∧ u = w') : Calls P f args u fun e w' => e = .returned v ∧ C w' :=
  h.mono fun e w' ⟨he, hw⟩ => ⟨he, hw ▸ hu⟩
end Go.Proofs.Ytgaecedhkbneaaa.Mx
namespace Go.Proofs.Ytgaecedhkbneaaa.Mx
open Go.RowKit
set_option linter.unusedVariables false
end Go.Proofs.Ytgaecedhkbneaaa.Mx
namespace Go.Proofs.Ytgaecedhkbneaaa.Mx
open Go.RowKit
set_option linter.unusedVariables false
end Go.Proofs.Ytgaecedhkbneaaa.Mx
namespace Go.Proofs.Ytgaecedhkbneaaa.Mx
open Go.RowKit
set_option linter.unusedVariables false
theorem Kept.put1 {b w : World} {L : List Box} (h : Kept b L w) (g : Nat) (t : TypeId) (cs : Array Value) (hg : w.heap.size = g) : Kept b ((g, t, cs) :: L) (w.alloc (.cells cs t)) := by
  subst hg; exact h.new t cs
def Rd (w : World) : List Box → Prop
  | [] => True
  | x :: L => (∀ i, w.cell? ⟨x.1, i, none⟩ = x.2.2[i]?) ∧ (∀ i, w.frozen? ⟨x.1, i, none⟩ = false) ∧ Rd w L
theorem Rd.of : ∀ {L : List Box} {w : World}, (∀ x ∈ L, CellsAt w x.1 x.2.1 x.2.2) → Rd w L
  | [], _, _ => trivial
  | x :: L, w, h => ⟨fun i => (h x (List.mem_cons_self ..)).cell i, fun i => (h x (List.mem_cons_self ..)).frozen i, Rd.of fun y hy => h y (List.mem_cons_of_mem _ hy)⟩
theorem Kept.rd {b w : World} {L : List Box} (h : Kept b L w) : Rd w L := Rd.of fun x hx => (h.2 x hx).2
end Go.Proofs.Ytgaecedhkbneaaa.Mx
namespace Go.Proofs.Ytgaecedhkbneaaa.Mx
open Go.RowKit
set_option linter.unusedVariables false
structure Own where
  k : Nat
  j : Nat
  fp : Value → List Nat
  holds : Bool → Value → World → Prop
structure OutB where
  r : Nat
  t : TypeId
  size : Nat
  j : Nat
  ks : List Nat
  V : (Nat → Value) → Array Value
end Go.Proofs.Ytgaecedhkbneaaa.Mx
namespace Go.Proofs.Ytgaecedhkbneaaa.Mx
open Go.ChangeShapes Go.WideShapes Go.ChangeAt Go.RowKit
set_option linter.unusedVariables false
section
variable {α : Type} [Inhabited α] {enc : α → List Value} {n : Nat} {T : TypeId} {w w' : World} {B B' base base' : Nat} {A : Option Addr} {L M : List α} {v : Value}
def Sls (enc : α → List Value) (n : Nat) (w : World) (B : Nat) (A : Option Addr) (L : List α) : Prop :=
  ∀ i, i < L.length → ∃ b off, A = some ⟨b, off, none⟩ ∧ b < B ∧ ∀ j, j < n → w.cell? ⟨b, off + i * n + j, none⟩ = (enc (L.getD i default))[j]?
theorem Sls.below (h : Sls enc n w B A L) (hb : Below B' w w') (hB : B ≤ B') : Sls enc n w' B A L := by
  intro i hi
  obtain ⟨b, off, rfl, hlt, hc⟩ := h i hi
  exact ⟨b, off, rfl, hlt, fun j hj => (hb.cell (p := ⟨b, off + i * n + j, none⟩) (Nat.lt_of_lt_of_le hlt hB)).trans (hc j hj)⟩
theorem Sls.more (h : Sls enc n w B A L) (hB : B ≤ B') : Sls enc n w B' A L := by
  intro i hi
  obtain ⟨b, off, e, hlt, c⟩ := h i hi
  exact ⟨b, off, e, by omega, c⟩
end
end Go.Proofs.Ytgaecedhkbneaaa.Mx
namespace Go.Proofs.Ytgaecedhkbneaaa.Mx
open Go.ChangeShapes Go.WideShapes Go.ChangeAt Go.RowKit
set_option linter.unusedVariables false
theorem isSum_yes (s : Int) (w : World) (h0 : 0 ≤ s) (h1 : s ≤ 4611686018427387903) :
    Calls Try.prog 77 #[.int .i64 s] w fun e w' => e = .returned (.bool true) ∧ w = w' := by
  have h2 : s < 4611686018427387904 := by omega
  go_enter Try.func77, Try.ntmps77
  go_wp2
  go_ret
  exact ⟨rfl, rfl⟩
theorem isSum_no (s : Int) (w : World) (h : s < 0 ∨ 4611686018427387903 < s) :
    Calls Try.prog 77 #[.int .i64 s] w fun e w' => e = .returned (.bool false) ∧ w = w' := by
  by_cases h0 : 0 ≤ s
  · have h2 : ¬ s < 4611686018427387904 := by omega
    clear h
    go_enter Try.func77, Try.ntmps77
    go_wp2
    go_ret
    exact ⟨rfl, rfl⟩
  · clear h
    go_enter Try.func77, Try.ntmps77
    go_wp2
    go_ret
    exact ⟨rfl, rfl⟩
theorem l1In_yes (s lo hi : Int) (w : World) (h0 : lo ≤ s) (h1 : s ≤ hi) :
    Calls Try.prog 16 #[.int .i64 s, .int .i64 lo, .int .i64 hi] w fun e w' => e = .returned (.bool true) ∧ w = w' := by
  go_enter Try.func16, Try.ntmps16
  go_wp2
  go_ret
  exact ⟨rfl, rfl⟩
theorem l1In_no (s lo hi : Int) (w : World) (h : s < lo ∨ hi < s) :
    Calls Try.prog 16 #[.int .i64 s, .int .i64 lo, .int .i64 hi] w fun e w' => e = .returned (.bool false) ∧ w = w' := by
  by_cases h0 : lo ≤ s
  · have h2 : ¬ s ≤ hi := by omega
    clear h
    go_enter Try.func16, Try.ntmps16
    go_wp2
    go_ret
    exact ⟨rfl, rfl⟩
  · clear h
    go_enter Try.func16, Try.ntmps16
    go_wp2
    go_ret
    exact ⟨rfl, rfl⟩
end Go.Proofs.Ytgaecedhkbneaaa.Mx
namespace Go.Proofs.Ytgaecedhkbneaaa.Mx
open Go.ChangeShapes Go.WideShapes Go.ChangeAt Go.RowKit
set_option linter.unusedVariables false
theorem isKey_yes (s : Int) (w : World) (h0 : 1 ≤ s) (h1 : s ≤ 1000000) :
    Calls Try.prog 58 #[.int .i64 s] w fun e w' => e = .returned (.bool true) ∧ w = w' := by
  go_enter Try.func58, Try.ntmps58
  go_wp2
  go_ret
  exact ⟨rfl, rfl⟩
theorem isKey_no (s : Int) (w : World) (h : s < 1 ∨ 1000000 < s) :
    Calls Try.prog 58 #[.int .i64 s] w fun e w' => e = .returned (.bool false) ∧ w = w' := by
  by_cases h0 : 1 ≤ s
  · have h2 : ¬ s ≤ 1000000 := by omega
    clear h
    go_enter Try.func58, Try.ntmps58
    go_wp2
    go_ret
    exact ⟨rfl, rfl⟩
  · clear h
    go_enter Try.func58, Try.ntmps58
    go_wp2
    go_ret
    exact ⟨rfl, rfl⟩
end Go.Proofs.Ytgaecedhkbneaaa.Mx
namespace Go.Proofs.Ytgaecedhkbneaaa.Mx
open Go.ChangeShapes Go.WideShapes Go.ChangeAt Go.RowKit
set_option linter.unusedVariables false
end Go.Proofs.Ytgaecedhkbneaaa.Mx
namespace Go.Proofs.Ytgaecedhkbneaaa.Mx
open Go.ChangeShapes Go.WideShapes Go.ChangeAt Go.RowKit
set_option linter.unusedVariables false
theorem l1Key_yes (s : Int) (w : World) (h0 : 1 ≤ s) (h1 : s ≤ 1000000) :
    Calls Try.prog 54 #[.int .i64 s] w fun e w' => e = .returned (.bool true) ∧ w = w' := by
  go_enter Try.func54, Try.ntmps54
  go_wp2_with (go_at_call 16; refine (l1In_yes _ _ _ _ h0 h1).mono ?_; rintro e w' ⟨rfl, rfl⟩)
  go_ret
  exact ⟨rfl, rfl⟩
theorem l1Key_no (s : Int) (w : World) (h : s < 1 ∨ 1000000 < s) :
    Calls Try.prog 54 #[.int .i64 s] w fun e w' => e = .returned (.bool false) ∧ w = w' := by
  go_enter Try.func54, Try.ntmps54
  go_wp2_with (go_at_call 16; refine (l1In_no _ _ _ _ h).mono ?_; rintro e w' ⟨rfl, rfl⟩)
  go_ret
  exact ⟨rfl, rfl⟩
end Go.Proofs.Ytgaecedhkbneaaa.Mx
namespace Go.Proofs.Ytgaecedhkbneaaa.Mx
open Go.ChangeShapes Go.WideShapes Go.ChangeAt Go.RowKit
set_option linter.unusedVariables false
def I64 (x : Int) : Prop := -9223372036854775808 ≤ x ∧ x ≤ 9223372036854775807
def isVal (v : Int) : Prop := 0 ≤ v ∧ v ≤ 10006
theorem isValue_yes (s : Int) (w : World) (h : isVal s) :
    Calls Try.prog 79 #[.int .i64 s] w fun e w' => e = .returned (.bool true) ∧ w = w' := by
  obtain ⟨h0, h1⟩ := h
  have h2 : s < 10007 := by omega
  go_enter Try.func79, Try.ntmps79
  go_wp2
  go_ret
  exact ⟨rfl, rfl⟩
theorem isValue_no (s : Int) (w : World) (h : ¬ isVal s) :
    Calls Try.prog 79 #[.int .i64 s] w fun e w' => e = .returned (.bool false) ∧ w = w' := by
  unfold isVal at h
  by_cases h0 : 0 ≤ s
  · have h2 : ¬ s < 10007 := by omega
    clear h
    go_enter Try.func79, Try.ntmps79
    go_wp2
    go_ret
    exact ⟨rfl, rfl⟩
  · clear h
    go_enter Try.func79, Try.ntmps79
    go_wp2
    go_ret
    exact ⟨rfl, rfl⟩
theorem l2Value_yes (s : Int) (w : World) (h : isVal s) :
    Calls Try.prog 56 #[.int .i64 s] w fun e w' => e = .returned (.bool true) ∧ w = w' := by
  obtain ⟨h0, h1⟩ := h
  go_enter Try.func56, Try.ntmps56
  go_wp2_with (go_at_call 16; refine (l1In_yes _ _ _ _ h0 h1).mono ?_; rintro e w' ⟨rfl, rfl⟩)
  go_ret
  exact ⟨rfl, rfl⟩
theorem l2Value_no (s : Int) (w : World) (h : ¬ isVal s) :
    Calls Try.prog 56 #[.int .i64 s] w fun e w' => e = .returned (.bool false) ∧ w = w' := by
  unfold isVal at h
  have h' : s < 0 ∨ 10006 < s := by omega
  clear h
  go_enter Try.func56, Try.ntmps56
  go_wp2_with (go_at_call 16; refine (l1In_no _ _ _ _ h').mono ?_; rintro e w' ⟨rfl, rfl⟩)
  go_ret
  exact ⟨rfl, rfl⟩
end Go.Proofs.Ytgaecedhkbneaaa.Mx
namespace Go.Proofs.Ytgaecedhkbneaaa.Mx
open Go.ChangeShapes Go.WideShapes Go.ChangeAt Go.RowKit
set_option linter.unusedVariables false
def isTm (t : Int) : Prop := 0 ≤ t ∧ t ≤ 100000
instance (a : Int) : Decidable (isTm a) := inferInstanceAs (Decidable (_ ∧ _))
instance (a : Int) : Decidable (isVal a) := inferInstanceAs (Decidable (_ ∧ _))
theorem isTime_yes (s : Int) (w : World) (h : isTm s) :
    Calls Try.prog 72 #[.int .i64 s] w fun e w' => e = .returned (.bool true) ∧ w = w' := by
  obtain ⟨h0, h1⟩ := h
  go_enter Try.func72, Try.ntmps72
  go_wp2
  go_ret
  exact ⟨rfl, rfl⟩
theorem isTime_no (s : Int) (w : World) (h : ¬ isTm s) :
    Calls Try.prog 72 #[.int .i64 s] w fun e w' => e = .returned (.bool false) ∧ w = w' := by
  unfold isTm at h
  by_cases h0 : 0 ≤ s
  · have h2 : ¬ s ≤ 100000 := by omega
    clear h
    go_enter Try.func72, Try.ntmps72
    go_wp2
    go_ret
    exact ⟨rfl, rfl⟩
  · clear h
    go_enter Try.func72, Try.ntmps72
    go_wp2
    go_ret
    exact ⟨rfl, rfl⟩
theorem l3Time_yes (s : Int) (w : World) (h : isTm s) :
    Calls Try.prog 52 #[.int .i64 s] w fun e w' => e = .returned (.bool true) ∧ w = w' := by
  obtain ⟨h0, h1⟩ := h
  go_enter Try.func52, Try.ntmps52
  go_wp2_with (go_at_call 16; refine (l1In_yes _ _ _ _ h0 h1).mono ?_; rintro e w' ⟨rfl, rfl⟩)
  go_ret
  exact ⟨rfl, rfl⟩
theorem l3Time_no (s : Int) (w : World) (h : ¬ isTm s) :
    Calls Try.prog 52 #[.int .i64 s] w fun e w' => e = .returned (.bool false) ∧ w = w' := by
  unfold isTm at h
  have h' : s < 0 ∨ 100000 < s := by omega
  clear h
  go_enter Try.func52, Try.ntmps52
  go_wp2_with (go_at_call 16; refine (l1In_no _ _ _ _ h').mono ?_; rintro e w' ⟨rfl, rfl⟩)
  go_ret
  exact ⟨rfl, rfl⟩
end Go.Proofs.Ytgaecedhkbneaaa.Mx
namespace Go.Proofs.Ytgaecedhkbneaaa.Mx
open Go.ChangeShapes Go.WideShapes Go.ChangeAt Go.RowKit
set_option linter.unusedVariables false
end Go.Proofs.Ytgaecedhkbneaaa.Mx
namespace Go.Proofs.Ytgaecedhkbneaaa.Mx
open Go.ChangeShapes Go.WideShapes Go.ChangeAt Go.RowKit
set_option linter.unusedVariables false
end Go.Proofs.Ytgaecedhkbneaaa.Mx
namespace Go.Proofs.Ytgaecedhkbneaaa.Mx
open Go.ChangeShapes Go.WideShapes Go.ChangeAt Go.RowKit
set_option linter.unusedVariables false
def isCell (t v : Int) : Prop := isTm t ∧ isVal v
instance (t v : Int) : Decidable (isCell t v) := inferInstanceAs (Decidable (_ ∧ _))
theorem specCellOk_calls (t v : Int) (w : World) :
    Calls Try.prog 33 #[.agg #[.int .i64 t, .int .i64 v]] w fun e w' => e = .returned (.bool (decide (isCell t v))) ∧ Below w.heap.size w w' := by
  by_cases ht : isTm t
  · have D := Lib.hid (fun w => l3Time_yes t w ht)
    by_cases hv : isVal v
    · have E := Lib.hid (fun w => l2Value_yes v w hv)
      rw [decide_eq_true (show isCell t v from ⟨ht, hv⟩)]
      clear ht hv
      go_enter Try.func33, Try.ntmps33
      go_wp2_with fail
      refine (D.out _).mono ?_; rintro e w' ⟨rfl, rfl⟩
      go_wp2_with fail
      refine (E.out _).mono ?_; rintro e w' ⟨rfl, rfl⟩
      go_wp2_with fail
      go_ret
      exact ⟨rfl, (Below.refl _ _).alloc (Nat.le_refl _) _⟩
    · have E := Lib.hid (fun w => l2Value_no v w hv)
      rw [decide_eq_false (show ¬ isCell t v from fun h => hv h.2)]
      clear ht hv
      go_enter Try.func33, Try.ntmps33
      go_wp2_with fail
      refine (D.out _).mono ?_; rintro e w' ⟨rfl, rfl⟩
      go_wp2_with fail
      refine (E.out _).mono ?_; rintro e w' ⟨rfl, rfl⟩
      go_wp2_with fail
      go_ret
      exact ⟨rfl, (Below.refl _ _).alloc (Nat.le_refl _) _⟩
  · have D := Lib.hid (fun w => l3Time_no t w ht)
    rw [decide_eq_false (show ¬ isCell t v from fun h => ht h.1)]
    clear ht
    go_enter Try.func33, Try.ntmps33
    go_wp2_with fail
    refine (D.out _).mono ?_; rintro e w' ⟨rfl, rfl⟩
    go_wp2_with fail
    go_ret
    exact ⟨rfl, (Below.refl _ _).alloc (Nat.le_refl _) _⟩
end Go.Proofs.Ytgaecedhkbneaaa.Mx
namespace Go.Proofs.Ytgaecedhkbneaaa.Mx
set_option linter.unusedVariables false
def upTo (l : List Int) (k : Nat) : Int := (l.take k).foldl (· + ·) 0
theorem upTo_zero (l : List Int) : upTo l 0 = 0 := by simp [upTo]
theorem upTo_succ (l : List Int) {k : Nat} (h : k < l.length) : upTo l (k + 1) = upTo l k + l.getD k 0 := by
  unfold upTo
  rw [List.take_succ_eq_append_getElem h, List.foldl_append, List.getD_eq_getElem?_getD, List.getElem?_eq_getElem h]
  rfl
def CountsOk (l : List Int) : Prop := ∀ i, i < l.length → 1 ≤ l.getD i 0 ∧ l.getD i 0 ≤ 8
def planOk (key : Int) (l : List Int) : Prop := (1 ≤ key ∧ key ≤ 1000000) ∧ (1 ≤ l.length ∧ l.length ≤ 4) ∧ CountsOk l ∧ upTo l l.length ≤ 24
theorem upTo_bd {l : List Int} (h : CountsOk l) {k : Nat} (hk : k ≤ l.length) : 0 ≤ upTo l k ∧ upTo l k ≤ 8 * k := by
  induction k with
  | zero => rw [upTo_zero]; omega
  | succ k ih =>
    have h1 := ih (by omega)
    have h2 := h k (by omega)
    rw [upTo_succ l (by omega)]
    omega
open Classical in
noncomputable def sectorsOf (key : Int) (l : List Int) : Int := if planOk key l then upTo l l.length else -1
open Classical in
noncomputable def firstOf (key : Int) (l : List Int) (r : Int) : Int := if planOk key l ∧ 0 ≤ r ∧ r < l.length then upTo l r.toNat else -1
theorem firstOf_yes {key : Int} {l : List Int} {r : Nat} (h : planOk key l) (hr : r < l.length) : firstOf key l r = upTo l r := by
  unfold firstOf; rw [if_pos ⟨h, by omega, by omega⟩]; simp
theorem firstOf_no {key : Int} {l : List Int} {r : Int} (h : ¬ (planOk key l ∧ 0 ≤ r ∧ r < l.length)) : firstOf key l r = -1 := by unfold firstOf; rw [if_neg h]
theorem sectorsOf_yes {key : Int} {l : List Int} (h : planOk key l) : sectorsOf key l = upTo l l.length := by unfold sectorsOf; rw [if_pos h]
theorem sectorsOf_no {key : Int} {l : List Int} (h : ¬ planOk key l) : sectorsOf key l = -1 := by unfold sectorsOf; rw [if_neg h]
end Go.Proofs.Ytgaecedhkbneaaa.Mx
namespace Go.Proofs.Ytgaecedhkbneaaa.Mx
open Go.ChangeShapes Go.WideShapes Go.ChangeAt Go.RowKit
set_option linter.unusedVariables false
theorem isNoCount_no (c : Int) (w : World) (h0 : 1 ≤ c) (h1 : c ≤ 8) :
    Calls Try.prog 60 #[.int .i64 c] w fun e w' => e = .returned (.bool false) ∧ w = w' := by
  have h2 : ¬ c < 1 := by omega
  have h3 : ¬ 8 < c := by omega
  clear h0 h1
  go_enter Try.func60, Try.ntmps60
  go_wp2
  go_ret
  exact ⟨rfl, rfl⟩
theorem isNoCount_yes (c : Int) (w : World) (h : c < 1 ∨ 8 < c) :
    Calls Try.prog 60 #[.int .i64 c] w fun e w' => e = .returned (.bool true) ∧ w = w' := by
  by_cases h0 : c < 1
  · clear h
    go_enter Try.func60, Try.ntmps60
    go_wp2
    go_ret
    exact ⟨rfl, rfl⟩
  · have h1 : 8 < c := by omega
    clear h
    go_enter Try.func60, Try.ntmps60
    go_wp2
    go_ret
    exact ⟨rfl, rfl⟩
theorem not_counts {l : List Int} (h : ¬ CountsOk l) : ∃ i, i < l.length ∧ (l.getD i 0 < 1 ∨ 8 < l.getD i 0) := by
  refine Classical.byContradiction fun hn => h fun i hi => ?_
  refine Classical.byContradiction fun hc => hn ⟨i, hi, by omega⟩
theorem index_none (A : Option Addr) (l : List Int) (cap B : Nat) (w : World) (hn : l.length ≤ maxLen) (hA : Ints w .i64 B A l) (hf : CountsOk l) :
    Calls Try.prog 68 #[.slice A l.length cap, .func (.func 60) #[] #[]] w fun e w' => e = .returned (.int .i64 (-1)) ∧ w = w' := by
  unfold maxLen at hn
  have C := Lib.hid (fun c w (h : 1 ≤ c ∧ c ≤ 8) => isNoCount_no c w h.1 h.2)
  go_enter Try.func68, Try.ntmps68
  go_wp2
  go_loop [8] (fun i => ∃ k : Nat, k ≤ l.length ∧ i = .int .i64 k) (fun i => l.length - (intOf i).toNat)
  case atStart => exact ⟨0, Nat.zero_le _, rfl⟩
  case round =>
    obtain ⟨k, hk, rfl⟩ := hrel
    by_cases hlt : k < l.length
    · obtain ⟨b, off, rfl, hb, hc⟩ := hA k hlt
      have hv := Lib.hid (hf k hlt)
      generalize l.getD k 0 = v at hc hv
      clear hA hf
      go_wp2_with fail
      refine (C.out _ _ hv.out).mono ?_; rintro e w' ⟨rfl, rfl⟩
      go_wp2_with fail
      go_round
      case rel => exact ⟨k + 1, by omega, by go_num⟩
      case measure => simp [intOf]; omega
    · clear hA hf
      go_wp2
      go_ret
      exact ⟨rfl, rfl⟩
theorem index_some (A : Option Addr) (l : List Int) (cap B : Nat) (w : World) (hn : l.length ≤ maxLen) (hA : Ints w .i64 B A l) (hf : ¬ CountsOk l) :
    Calls Try.prog 68 #[.slice A l.length cap, .func (.func 60) #[] #[]] w fun e w' => ∃ i : Nat, e = .returned (.int .i64 i) ∧ i < maxLen ∧ w = w' := by
  unfold maxLen at *
  obtain ⟨j, hj, hjv⟩ := not_counts hf
  clear hf
  have C := Lib.hid (fun c w (h : 1 ≤ c ∧ c ≤ 8) => isNoCount_no c w h.1 h.2)
  have D := Lib.hid (fun c w (h : c < 1 ∨ 8 < c) => isNoCount_yes c w h)
  have HJ := Lib.hid hjv
  clear hjv
  go_enter Try.func68, Try.ntmps68
  go_wp2
  go_loop [8] (fun i => ∃ k : Nat, k ≤ j ∧ i = .int .i64 k) (fun i => l.length - (intOf i).toNat)
  case atStart => exact ⟨0, Nat.zero_le _, rfl⟩
  case round =>
    obtain ⟨k, hk, rfl⟩ := hrel
    have hlt : k < l.length := by omega
    obtain ⟨b, off, rfl, hb, hc⟩ := hA k hlt
    clear hA
    by_cases hbad : l.getD k 0 < 1 ∨ 8 < l.getD k 0
    · have hv := Lib.hid hbad
      clear hbad HJ
      generalize l.getD k 0 = v at hc hv
      go_wp2_with fail
      refine (D.out _ _ hv.out).mono ?_; rintro e w' ⟨rfl, rfl⟩
      go_wp2_with fail
      go_ret
      exact ⟨k, rfl, by omega, rfl⟩
    · have hkj : k < j := by
        rcases Nat.lt_or_ge k j with h | h
        · exact h
        · obtain rfl : k = j := by omega
          exact absurd HJ.out hbad
      have hv := Lib.hid (show 1 ≤ l.getD k 0 ∧ l.getD k 0 ≤ 8 by omega)
      clear hbad HJ
      generalize l.getD k 0 = v at hc hv
      go_wp2_with fail
      refine (C.out _ _ hv.out).mono ?_; rintro e w' ⟨rfl, rfl⟩
      go_wp2_with fail
      go_round
      case rel => exact ⟨k + 1, by omega, by go_num⟩
      case measure => simp [intOf]; omega
theorem contains_none (A : Option Addr) (l : List Int) (cap B : Nat) (w : World) (hn : l.length ≤ maxLen) (hA : Ints w .i64 B A l) (hf : CountsOk l) :
    Calls Try.prog 59 #[.slice A l.length cap, .func (.func 60) #[] #[]] w fun e w' => e = .returned (.bool false) ∧ w = w' := by
  have C := Lib.hid (index_none A l cap B w hn hA hf)
  clear hA hf
  unfold maxLen at hn
  go_enter Try.func59, Try.ntmps59
  go_wp2_with fail
  refine C.out.mono ?_; rintro e w' ⟨rfl, rfl⟩
  go_wp2_with fail
  go_ret
  exact ⟨rfl, rfl⟩
theorem contains_some (A : Option Addr) (l : List Int) (cap B : Nat) (w : World) (hn : l.length ≤ maxLen) (hA : Ints w .i64 B A l) (hf : ¬ CountsOk l) :
    Calls Try.prog 59 #[.slice A l.length cap, .func (.func 60) #[] #[]] w fun e w' => e = .returned (.bool true) ∧ w = w' := by
  have C := Lib.hid (index_some A l cap B w hn hA hf)
  clear hA hf
  unfold maxLen at hn
  go_enter Try.func59, Try.ntmps59
  go_wp2_with fail
  refine C.out.mono ?_; rintro e w' ⟨i, rfl, hi, rfl⟩
  unfold maxLen at hi
  have h0 : (0 : Int) ≤ i := by omega
  go_wp2_with fail
  go_ret
  exact ⟨rfl, rfl⟩
theorem ahead_calls (key : Int) (A : Option Addr) (l : List Int) (cap r : Nat) (w : World) (hl : l.length ≤ 4) (hcap : l.length ≤ cap) (hA : Ints w .i64 w.heap.size A l) (hc : CountsOk l) (hr : r ≤ l.length) (hr0 : 0 < l.length) :
    Calls Try.prog 69 #[.agg #[.int .i64 key, .slice A l.length cap], .int .i64 r] w fun e w' => e = .returned (.int .i64 (upTo l r)) ∧ Below w.heap.size w w' := by
  have HA := Lib.hid hA
  have HC := Lib.hid hc
  obtain ⟨b0, off0, rfl, hb0, _⟩ := hA 0 hr0
  clear hA hc
  go_enter Try.func69, Try.ntmps69
  go_wp2
  go_loopw [5, 13] (fun s i wr => ∃ k : Nat, k ≤ r ∧ i = .int .i64 k ∧ s = .int .i64 (upTo l k) ∧ Below w.heap.size w wr) (fun _ i _ => r - (intOf i).toNat)
  case atStart => exact ⟨0, Nat.zero_le _, rfl, by rw [upTo_zero], (Below.refl _ _).alloc (Nat.le_refl _) _⟩
  case round =>
    obtain ⟨k, hk, rfl, rfl, hbel⟩ := hrel
    have HB := Lib.hid hbel
    clear hbel
    by_cases hlt : k < r
    · obtain ⟨b, off, e1, hb, hc⟩ := (HA.out.below HB.out (Nat.le_refl _)) k (by omega)
      injection e1 with e1
      injection e1 with e1 e2 e3
      subst e1 e2
      have hlt' : (k : Int) < r := by omega
      have hk0 : (0 : Int) ≤ k := by omega
      have HS := Lib.hid (upTo_succ l (show k < l.length by omega))
      have hv := HC.out k (by omega)
      have hu := upTo_bd HC.out (show k ≤ l.length by omega)
      generalize l.getD k 0 = v at hc hv HS
      generalize upTo l k = s at HS hu
      obtain ⟨v0, v1⟩ := hv
      obtain ⟨u0, u1⟩ := hu
      go_wp2
      go_roundw
      case rel => exact ⟨k + 1, by omega, by go_num, by rw [HS.out], HB.out⟩
      case measure => simp [intOf]; omega
    · obtain rfl : k = r := by omega
      go_wp2
      go_ret
      exact ⟨rfl, HB.out⟩
theorem sectors_calls (key : Int) (A : Option Addr) (l : List Int) (cap : Nat) (w : World) (hl : l.length ≤ 4) (hcap : l.length ≤ cap) (hA : Ints w .i64 w.heap.size A l) (hc : CountsOk l) (hr0 : 0 < l.length) :
    Calls Try.prog 61 #[.agg #[.int .i64 key, .slice A l.length cap]] w fun e w' => e = .returned (.int .i64 (upTo l l.length)) ∧ Below w.heap.size w w' := by
  have HA := Lib.hid hA
  have C := Lib.hid (fun w hA => ahead_calls key A l cap l.length w hl hcap hA hc (Nat.le_refl _) hr0)
  clear hA hc
  go_enter Try.func61, Try.ntmps61
  go_wp2_with fail
  refine (C.out _ ((HA.out.below ((Below.refl _ _).alloc (Nat.le_refl _) _) (Nat.le_refl _)).more (by simp))).mono ?_; rintro e w1 ⟨rfl, b1⟩
  have B1 := Lib.hid (((Below.refl w.heap.size w).alloc (Nat.le_refl _) _).trans (b1.mono (by simp)))
  clear b1 C
  go_wp2_with fail
  go_ret
  exact ⟨rfl, B1.out⟩
theorem first_yes (key : Int) (A : Option Addr) (l : List Int) (cap r : Nat) (w : World) (hl : l.length ≤ 4) (hcap : l.length ≤ cap) (hA : Ints w .i64 w.heap.size A l) (hc : CountsOk l) (hr : r < l.length) :
    Calls Try.prog 71 #[.agg #[.int .i64 key, .slice A l.length cap], .int .i64 r] w fun e w' => e = .returned (.int .i64 (upTo l r)) ∧ Below w.heap.size w w' := by
  have HA := Lib.hid hA
  have C := Lib.hid (fun w hA => ahead_calls key A l cap r w hl hcap hA hc (by omega) (by omega))
  have h0 : ¬ (r : Int) < 0 := by omega
  have h1 : ¬ (l.length : Int) ≤ r := by omega
  clear hA hc
  go_enter Try.func71, Try.ntmps71
  go_wp2_with fail
  refine (C.out _ ((HA.out.below ((Below.refl _ _).alloc (Nat.le_refl _) _) (Nat.le_refl _)).more (by simp))).mono ?_; rintro e w1 ⟨rfl, b1⟩
  have B1 := Lib.hid (((Below.refl w.heap.size w).alloc (Nat.le_refl _) _).trans (b1.mono (by simp)))
  clear b1 C
  go_wp2_with fail
  go_ret
  exact ⟨rfl, B1.out⟩
theorem first_no (key r : Int) (A : Option Addr) (n cap : Nat) (w : World) (hr : r < 0 ∨ n ≤ r) (hn : n ≤ 4) :
    Calls Try.prog 71 #[.agg #[.int .i64 key, .slice A n cap], .int .i64 r] w fun e w' => e = .returned (.int .i64 (-1)) ∧ Below w.heap.size w w' := by
  by_cases h0 : r < 0
  · clear hr
    go_enter Try.func71, Try.ntmps71
    go_wp2_with fail
    go_ret
    exact ⟨rfl, (Below.refl _ _).alloc (Nat.le_refl _) _⟩
  · have h1 : (n : Int) ≤ r := by omega
    clear hr
    go_enter Try.func71, Try.ntmps71
    go_wp2_with fail
    go_ret
    exact ⟨rfl, (Below.refl _ _).alloc (Nat.le_refl _) _⟩
end Go.Proofs.Ytgaecedhkbneaaa.Mx

/- PLAIN WORDS: since world b nothing that was there has turned, and some newer blocks hold what is known of them. -/
import Derived.Test.YthbkccagpggljaaMem
import Derived.Lib.Hide
namespace Go.Proofs.Ythbkccagpggljaa.Mx
open Go.RowKit
set_option linter.unusedVariables false

/-- A block, its type, its cells. -/
abbrev Box := Nat × TypeId × Array Value
/-- Since world b nothing that was there has turned; each block of L is newer than b and holds its cells. -/
def Kept (b : World) (L : List Box) (w : World) : Prop := Below b.heap.size b w ∧ ∀ x ∈ L, b.heap.size ≤ x.1 ∧ CellsAt w x.1 x.2.1 x.2.2
namespace Kept
variable {b u w : World} {L : List Box} {g p : Nat} {t : TypeId} {cs : Array Value}
theorem refl (b : World) : Kept b [] b := ⟨Below.refl _ _, fun x hx => by cases hx⟩
theorem of_below (h : Below b.heap.size b w) : Kept b [] w := ⟨h, fun x hx => by cases hx⟩
theorem below (h : Kept b L u) (hb : Below u.heap.size u w) : Kept b L w := ⟨h.1.trans (hb.mono h.1.size), fun x hx => ⟨(h.2 x hx).1, (h.2 x hx).2.below hb (h.2 x hx).2.lt⟩⟩
theorem grown (h : Kept b L u) (hb : u.grownBy w (some g)) (hg : b.heap.size ≤ g) (hne : ∀ x ∈ L, x.1 ≠ g) : Kept b L w :=
  ⟨bgb h.1 hb h.1.size hg, fun x hx => ⟨(h.2 x hx).1, (h.2 x hx).2.grown hb (by intro e; injection e with e; exact hne x hx e)⟩⟩
theorem alloc (h : Kept b L w) (o : Obj) : Kept b L (w.alloc o) := h.below ((Below.refl _ _).alloc (Nat.le_refl _) _)
theorem new (h : Kept b L w) (t : TypeId) (cs : Array Value) : Kept b ((w.heap.size, t, cs) :: L) (w.alloc (.cells cs t)) := by
  refine ⟨(h.alloc _).1, fun x hx => ?_⟩
  rcases List.mem_cons.1 hx with rfl | hx
  · exact ⟨h.1.size, CellsAt.new w t cs⟩
  · exact (h.alloc _).2 x hx
theorem drew (h : Kept b L w) : Kept b L w.drew := ⟨h.1.drew, h.2⟩
theorem drewN (h : Kept b L w) (n : Nat) : Kept b L (w.drewN n) := ⟨⟨h.1.os, h.1.tape, h.1.output, h.1.size, h.1.block⟩, h.2⟩
theorem tail {x : Box} (h : Kept b (x :: L) w) : Kept b L w := ⟨h.1, fun y hy => h.2 y (List.mem_cons_of_mem _ hy)⟩
theorem sub {L' : List Box} (h : Kept b L w) (hs : ∀ x ∈ L', x ∈ L) : Kept b L' w := ⟨h.1, fun y hy => h.2 y (hs y hy)⟩
theorem set (h : Kept b ((p, t, cs) :: L) w) (hne : ∀ x ∈ L, x.1 ≠ p) (i : Nat) (v : Value) : Kept b ((p, t, cs.setIfInBounds i v) :: L) (w.setCell ⟨p, i, none⟩ v) := by
  have hp := h.2 _ (List.mem_cons_self ..)
  refine ⟨h.1.setCell hp.1 _, fun x hx => ?_⟩
  rcases List.mem_cons.1 hx with rfl | hx
  · exact ⟨hp.1, hp.2.set_ i v⟩
  · exact ⟨(h.2 x (List.mem_cons_of_mem _ hx)).1, (h.2 x (List.mem_cons_of_mem _ hx)).2.grown (gb_set (gb_refl w (some p)) i v) (by intro e; injection e with e; exact hne x hx e)⟩
theorem at_ (h : Kept b L w) (hm : (p, t, cs) ∈ L) : CellsAt w p t cs := (h.2 _ hm).2
theorem cell (h : Kept b L w) (hm : (p, t, cs) ∈ L) (i : Nat) : w.cell? ⟨p, i, none⟩ = cs[i]? := (h.2 _ hm).2.cell i
theorem frozen (h : Kept b L w) (hm : (p, t, cs) ∈ L) (i : Nat) : w.frozen? ⟨p, i, none⟩ = false := (h.2 _ hm).2.frozen i
theorem lt (h : Kept b L w) {x : Box} (hx : x ∈ L) : x.1 < w.heap.size := (h.2 x hx).2.lt
theorem apart (h : Kept b L w) : ∀ x ∈ L, x.1 ≠ w.heap.size := fun x hx => Nat.ne_of_lt (h.lt hx)
/-- The first block's three cells. -/
theorem three {x y z : Value} (h : Kept b ((p, t, #[x, y, z]) :: L) w) : w.cell? ⟨p, 0, none⟩ = some x ∧ w.cell? ⟨p, 1, none⟩ = some y ∧ w.cell? ⟨p, 2, none⟩ = some z :=
  ⟨h.cell (List.mem_cons_self ..) 0, h.cell (List.mem_cons_self ..) 1, h.cell (List.mem_cons_self ..) 2⟩
end Kept
end Go.Proofs.Ythbkccagpggljaa.Mx

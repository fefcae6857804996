/- PLAIN WORDS THAT THE DRAWS SHARE: a write to a newer block, a row that the call appends to, the cursor, the dice. No function's contract. -/
import Derived.Test.YtcipjmenhoeekaaDrawE
import Derived.Test.YtcipjmenhoeekaaDice
namespace Go.Proofs.Ytcipjmenhoeekaa.Mx
open Go.ChangeShapes Go.WideShapes Go.ChangeAt Go.RowKit
set_option linter.unusedVariables false

theorem Cur.set {w : World} {g : Nat} {A : Option Addr} {l : List Int} {cap : Nat} (h : Cur w g A l cap) {b : Nat} (hb : g < b) (i : Nat) (u : Value) : Cur (w.setCell ⟨b, i, none⟩ u) g A l cap :=
  h.gb (gb_set (gb_refl w (some b)) i u) hb
theorem St.set {v w : World} {g : Nat} {A : Option Addr} {l : List Int} {cap : Nat} (h : St v g A l cap w) {b : Nat} (hb : g < b) (i : Nat) (u : Value) : St v g A l cap (w.setCell ⟨b, i, none⟩ u) :=
  ⟨bgb h.1 (gb_set (gb_refl w (some b)) i u) (Nat.le_of_lt h.2.lt) (Nat.le_of_lt hb), h.2.set hb i u⟩
/-- A write to a block that is newer than w. -/
theorem gb_new {w w' : World} {g b : Nat} (h : w.grownBy w' (some g)) (hb : w.heap.size ≤ b) (i : Nat) (u : Value) : w.grownBy (w'.setCell ⟨b, i, none⟩ u) (some g) :=
  ⟨h.os, h.tape, h.output, by simpa [World.setCell] using h.size, fun k hk hr => (Below.heap_setCell _ _ _ _ (by simp; omega)).trans (h.block k hk hr)⟩
/-- A write to blocks that are newer than a. -/
theorem gb_blw {a b c : World} {g : Nat} (h : a.grownBy b (some g)) (hb : Below a.heap.size b c) : a.grownBy c (some g) :=
  ⟨hb.os.trans h.os, hb.tape.trans h.tape, hb.output.trans h.output, Nat.le_trans h.size hb.size, fun k hk hr => (hb.block k hk).trans (h.block k hk hr)⟩
theorem St.below {v w w' : World} {g B : Nat} {A : Option Addr} {l : List Int} {cap : Nat} (h : St v g A l cap w) (hb : Below B w w') (hg : g < B) : St v g A l cap w' :=
  ⟨h.1.trans (hb.mono (Nat.le_of_lt hg)), h.2.below hb hg⟩

theorem Row.alloc {w : World} {base t : Nat} {v : Value} {zs : List Int} (h : Row w base t v zs) (o : Obj) : Row (w.alloc o) base t v zs := ⟨h.1.alloc o, h.2⟩
theorem Row.mono {w : World} {base base' t : Nat} {v : Value} {zs : List Int} (h : Row w base t v zs) (hb : base' ≤ base) : Row w base' t v zs := by
  refine ⟨⟨h.1.1, ?_⟩, h.2⟩
  rcases h.1.2 with h0 | ⟨g, cap, cur, e, hg, r⟩
  · exact .inl h0
  · exact .inr ⟨g, cap, cur, e, Nat.le_trans hb hg, r⟩
theorem Row.reads_cap {w : World} {base t : Nat} {v : Value} {zs : List Int} (h : Row w base t v zs) : ∃ A c, v = .slice A zs.length c ∧ Ints w .i64 w.heap.size A zs ∧ zs.length ≤ c := by
  rcases h.1.2 with ⟨rfl, hn⟩ | ⟨g, cap, cur, rfl, hb, hg, hnc, hcm, hcs, htake⟩
  · have : zs = [] := List.length_eq_zero_iff.1 hn
    subst this
    exact ⟨none, 0, rfl, Ints.nil, Nat.le_refl _⟩
  · obtain ⟨A, c, e, hI⟩ := h.reads
    injection e with e1 e2 e3
    subst e1 e3
    exact ⟨_, cap, rfl, hI, hnc⟩

/-- of 65 -/
theorem Dice.drew {w : World} {g : Nat} {A : Option Addr} {l : List Int} {cap : Nat} (h : Dice w g A l cap) : Dice w.drew g A l cap := by
  obtain ⟨hA, i, x, hi, hc⟩ := h
  exact ⟨hA, i, x, hi, hc⟩
/-- of 65 -/
theorem Dice.set {w : World} {g : Nat} {A : Option Addr} {l : List Int} {cap : Nat} (h : Dice w g A l cap) {b : Nat} (hb : g < b) (i : Nat) (u : Value) : Dice (w.setCell ⟨b, i, none⟩ u) g A l cap := by
  have hlt := h.lt
  obtain ⟨hA, j, x, hi, hc⟩ := h
  exact ⟨hA.gb (gb_set (gb_refl w (some b)) i u) (Nat.le_of_lt hlt) (Nat.le_of_lt hb), j, x, hi, hc.grown (gb_set (gb_refl w (some b)) i u) (by intro e; injection e with e; omega)⟩
/-- of 65 -/
theorem d8_below {u w : World} {g : Nat} {A : Option Addr} {l : List Int} {cap : Nat} (h : Dice u g A l cap) (hb : Below u.heap.size u w) : Dice w g A l cap := h.below hb h.lt

end Go.Proofs.Ytcipjmenhoeekaa.Mx

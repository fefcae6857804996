/- CONTRACTS OF spec.l7Sum, TrustOk: what each call answers, at every argument; nothing that was there is written. -/
import Derived.Test.YthbkccagpggljaaCellS
import Derived.Test.YthbkccagpggljaaPlanT
import Derived.Test.YthbkccagpggljaaClass
import Derived.Deep.RegionHeld3
import Derived.Deep.CutRange
namespace Go.Proofs.Ythbkccagpggljaa.Mx
open Go.ChangeShapes Go.WideShapes Go.ChangeAt Go.RowKit
set_option linter.unusedVariables false

/-- A trust, as plain numbers. -/
structure Tru where
  clock : Int
  epoch : Int
  cursor : Int
  read : Int
  written : Int
  nread : Int
  nwritten : Int
  failed : Bool
def isSumP (s : Int) : Prop := 0 ≤ s ∧ s ≤ 4611686018427387903
instance (s : Int) : Decidable (isSumP s) := inferInstanceAs (Decidable (_ ∧ _))
/-- What chapter 7 asks of a right trust, of a region of l.getD r 0 sectors. -/
def trustOk (key : Int) (l : List Int) (r : Int) (t : Tru) : Prop :=
  planOk key l ∧ (0 ≤ r ∧ r < l.length) ∧ isTm t.clock ∧ (0 ≤ t.epoch ∧ t.epoch ≤ 1000) ∧ (0 ≤ t.cursor ∧ t.cursor ≤ l.getD r.toNat 0 - 1) ∧
  (t.cursor = 0 → t.nread = 0 ∧ t.nwritten = 0) ∧ isSumP t.read ∧ isSumP t.written ∧ isSumP t.nread ∧ isSumP t.nwritten
open Classical in
noncomputable def trustB (key : Int) (l : List Int) (r : Int) (t : Tru) : Bool := decide (trustOk key l r t)
open Classical in
theorem trustB_yes {key : Int} {l : List Int} {r : Int} {t : Tru} (h : trustOk key l r t) : trustB key l r t = true := by unfold trustB; exact decide_eq_true h
open Classical in
theorem trustB_no {key : Int} {l : List Int} {r : Int} {t : Tru} (h : ¬ trustOk key l r t) : trustB key l r t = false := by unfold trustB; exact decide_eq_false h

/-- Does s lie from lo to hi? -/
def InB (s lo hi : Int) (z : Bool) : Prop := z = decide (lo ≤ s ∧ s ≤ hi)
theorem InB.yes {s lo hi : Int} (h0 : lo ≤ s) (h1 : s ≤ hi) : InB s lo hi true := (decide_eq_true ⟨h0, h1⟩).symm
theorem InB.no {s lo hi : Int} (h : ¬ (lo ≤ s ∧ s ≤ hi)) : InB s lo hi false := (decide_eq_false h).symm
theorem l1In_b (s lo hi : Int) (z : Bool) (w : World) (h : InB s lo hi z) :
    Calls Try.prog 27 #[.int .i64 s, .int .i64 lo, .int .i64 hi] w fun e w' => e = .returned (.bool z) ∧ w = w' := by
  unfold InB at h
  subst h
  by_cases hc : lo ≤ s ∧ s ≤ hi
  · rw [decide_eq_true hc]; exact l1In_yes s lo hi w hc.1 hc.2
  · rw [decide_eq_false hc]; exact l1In_no s lo hi w (by omega)
def TmB (s : Int) (z : Bool) : Prop := z = decide (isTm s)
theorem TmB.yes {s : Int} (h : isTm s) : TmB s true := (decide_eq_true h).symm
theorem TmB.no {s : Int} (h : ¬ isTm s) : TmB s false := (decide_eq_false h).symm
theorem l3Time_b (s : Int) (z : Bool) (w : World) (h : TmB s z) :
    Calls Try.prog 38 #[.int .i64 s] w fun e w' => e = .returned (.bool z) ∧ w = w' := by
  unfold TmB at h
  subst h
  by_cases hc : isTm s
  · rw [decide_eq_true hc]; exact l3Time_yes s w hc
  · rw [decide_eq_false hc]; exact l3Time_no s w hc
def SumB (s : Int) (z : Bool) : Prop := z = decide (isSumP s)
theorem SumB.yes {s : Int} (h : isSumP s) : SumB s true := (decide_eq_true h).symm
theorem SumB.no {s : Int} (h : ¬ isSumP s) : SumB s false := (decide_eq_false h).symm
def OkB (key : Int) (l : List Int) (z : Bool) : Prop := z = okB key l

/-- Since world b nothing that was there has turned; the box p holds the plan, the box q the trust, the cell c holds x. -/
def TrS (b : World) (p q : Nat) (cs ds : Array Value) (c : Addr) (x : Value) (w : World) : Prop :=
  Below b.heap.size b w ∧ CellsAt w p 31 cs ∧ CellsAt w q 27 ds ∧ c.block < w.heap.size ∧ w.cell? c = some x
section
variable {b w w' : World} {p q : Nat} {u v x0 x1 x2 x3 x4 x5 x6 x7 x : Value} {c : Addr}
theorem TrS.cells (h : TrS b p q #[u, v] #[x0, x1, x2, x3, x4, x5, x6, x7] c x w) :
    (w.cell? ⟨p, 0, none⟩ = some u ∧ w.cell? ⟨p, 1, none⟩ = some v ∧ w.cell? ⟨q, 0, none⟩ = some x0 ∧ w.cell? ⟨q, 1, none⟩ = some x1 ∧ w.cell? ⟨q, 2, none⟩ = some x2 ∧ w.cell? c = some x) ∧ TrS b p q #[u, v] #[x0, x1, x2, x3, x4, x5, x6, x7] c x w :=
  ⟨⟨h.2.1.cell 0, h.2.1.cell 1, h.2.2.1.cell 0, h.2.2.1.cell 1, h.2.2.1.cell 2, h.2.2.2.2⟩, h⟩
theorem TrS.keep (hb : Below w.heap.size w w')
    (h : (w.cell? ⟨p, 0, none⟩ = some u ∧ w.cell? ⟨p, 1, none⟩ = some v ∧ w.cell? ⟨q, 0, none⟩ = some x0 ∧ w.cell? ⟨q, 1, none⟩ = some x1 ∧ w.cell? ⟨q, 2, none⟩ = some x2 ∧ w.cell? c = some x) ∧ TrS b p q #[u, v] #[x0, x1, x2, x3, x4, x5, x6, x7] c x w) :
    (w'.cell? ⟨p, 0, none⟩ = some u ∧ w'.cell? ⟨p, 1, none⟩ = some v ∧ w'.cell? ⟨q, 0, none⟩ = some x0 ∧ w'.cell? ⟨q, 1, none⟩ = some x1 ∧ w'.cell? ⟨q, 2, none⟩ = some x2 ∧ w'.cell? c = some x) ∧ TrS b p q #[u, v] #[x0, x1, x2, x3, x4, x5, x6, x7] c x w' :=
  TrS.cells ⟨h.2.1.trans (hb.mono h.2.1.size), h.2.2.1.below hb h.2.2.1.lt, h.2.2.2.1.below hb h.2.2.2.1.lt, Nat.lt_of_lt_of_le h.2.2.2.2.1 hb.size, (hb.cell h.2.2.2.2.1).trans h.2.2.2.2.2⟩
end

end Go.Proofs.Ythbkccagpggljaa.Mx

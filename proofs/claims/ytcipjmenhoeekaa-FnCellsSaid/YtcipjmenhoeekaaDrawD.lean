/- CONTRACT OF spec.DrawAddOf: it answers two numbers of type int64; nothing that was there is written. -/
import Derived.Test.YtcipjmenhoeekaaDrawB
import Derived.Deep.RegionWith
namespace Go.Proofs.Ytcipjmenhoeekaa.Mx
open Go.ChangeShapes Go.WideShapes Go.ChangeAt Go.RowKit
set_option linter.unusedVariables false

/-- THE STATE OF A DRAW: since world v nothing below g has turned; block g is the cursor. -/
def St (v : World) (g : Nat) (A : Option Addr) (l : List Int) (cap : Nat) (w : World) : Prop := Below g v w ∧ Cur w g A l cap
theorem St.drew {v w : World} {g : Nat} {A : Option Addr} {l : List Int} {cap : Nat} (h : St v g A l cap w) : St v g A l cap w.drew := ⟨h.1.drew, h.2⟩
theorem St.alloc {v w : World} {g : Nat} {A : Option Addr} {l : List Int} {cap : Nat} (h : St v g A l cap w) (o : Obj) : St v g A l cap (w.alloc o) := ⟨h.1.alloc (Nat.le_of_lt h.2.lt) o, h.2.alloc o⟩

/-- A number is answered, and the state stands. -/
def NumS (lo hi : Int) (v w : World) (g : Nat) (A : Option Addr) (l : List Int) (cap : Nat) (e : Ending) (w' : World) : Prop :=
  ∃ x : Int, e = .returned (.int .i64 x) ∧ (lo ≤ x ∧ x ≤ hi) ∧ St v g A l cap w' ∧ w.grownBy w' (some g)
theorem NumS.of {lo hi : Int} {v w w' : World} {g : Nat} {A : Option Addr} {l : List Int} {cap : Nat} {e : Ending} (h : St v g A l cap w) (hx : Num lo hi w g A l cap e w') : NumS lo hi v w g A l cap e w' := by
  obtain ⟨x, he, hb, hg, hc⟩ := hx
  exact ⟨x, he, hb, ⟨bgb h.1 hg (Nat.le_of_lt h.2.lt) (Nat.le_refl _), hc⟩, hg⟩

theorem below_st (v : World) (g : Nat) (A : Option Addr) (l : List Int) (cap : Nat) (n : Int) (w : World) (hn : l.length ≤ maxLen) (h : St v g A l cap w) (h1 : 1 ≤ n) :
    Calls Try.prog 51 #[.pointer (some ⟨g, 0, none⟩), .int .i64 n] w (NumS 0 (n - 1) v w g A l cap) :=
  (below_calls g A l cap n w hn h.2 h1).mono fun _ _ hx => NumS.of h hx
theorem num_st (v : World) (g : Nat) (A : Option Addr) (l : List Int) (cap : Nat) (m : Int) (w : World) (hn : l.length ≤ maxLen) (h : St v g A l cap w) (h0 : 0 ≤ m) (h1 : m ≤ 4611686018427387904) :
    Calls Try.prog 50 #[.pointer (some ⟨g, 0, none⟩), .int .i64 m] w (NumS (-9223372036854775808) 9223372036854775807 v w g A l cap) :=
  (num_calls g A l cap m w hn h.2 h0 h1).mono fun _ _ hx => NumS.of h hx

theorem CellsAt.someInt {w : World} {g : Nat} {t : TypeId} (zs : List Int) (h : CellsAt w g t ((zs.map (Value.int .i64)).toArray)) (k : Nat) (hk : k < zs.length) : ∃ v, w.cell? ⟨g, k, none⟩ = some (.int .i64 v) := ⟨_, h.ints hk⟩

/-- Two numbers are answered; nothing that was there is written. -/
def TwoNums (w : World) (e : Ending) (w' : World) : Prop :=
  ∃ a b : Int, e = .returned (.tuple #[.int .i64 a, .int .i64 b]) ∧ Below w.heap.size w w'

end Go.Proofs.Ytcipjmenhoeekaa.Mx

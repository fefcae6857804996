/- CONTRACTS OF spec.l2DrawValue, DrawStreamOf, DrawHidden: each answers some numbers of type int64; nothing that was there is written. -/
import Derived.Test.YtagjgdgkkblidaaDrawD
import Derived.Test.YtagjgdgkkblidaaStreamA
import Derived.OwnWalk
namespace Go.Proofs.Ytagjgdgkkblidaa.Mx
open Go.ChangeShapes Go.WideShapes Go.ChangeAt Go.RowKit
set_option linter.unusedVariables false

theorem odd_st (v : World) (g : Nat) (A : Option Addr) (l : List Int) (cap : Nat) (w : World) (hn : l.length ≤ maxLen) (h : St v g A l cap w) :
    Calls Try.prog 48 #[.pointer (some ⟨g, 0, none⟩)] w (NumS (-9223372036854775808) 9223372036854775807 v w g A l cap) :=
  (odd_calls g A l cap w hn h.2).mono fun _ _ hx => NumS.of h hx
/-- True or false is answered, and the state stands. -/
def BitS (v w : World) (g : Nat) (A : Option Addr) (l : List Int) (cap : Nat) (e : Ending) (w' : World) : Prop :=
  ∃ x : Bool, e = .returned (.bool x) ∧ St v g A l cap w' ∧ w.grownBy w' (some g)
theorem once_st (v : World) (g : Nat) (A : Option Addr) (l : List Int) (cap : Nat) (n : Int) (w : World) (hn : l.length ≤ maxLen) (h : St v g A l cap w) (h1 : 1 ≤ n) :
    Calls Try.prog 42 #[.pointer (some ⟨g, 0, none⟩), .int .i64 n] w (BitS v w g A l cap) :=
  (once_calls g A l cap n w hn h.2 h1).mono fun _ _ ⟨x, he, hg, hc⟩ => ⟨x, he, ⟨bgb h.1 hg (Nat.le_of_lt h.2.lt) (Nat.le_refl _), hc⟩, hg⟩
/-- A state that began at a new cursor. -/
theorem St.new {w w' : World} {A : Option Addr} {l : List Int} {cap : Nat} (hb : Below w.heap.size w w') (hc : Cur w' w.heap.size A l cap) : St w w.heap.size A l cap w' := ⟨hb, hc⟩

/-- Three numbers are answered; nothing that was there is written. -/
def ThreeNums (w : World) (e : Ending) (w' : World) : Prop :=
  ∃ a b c : Int, e = .returned (.tuple #[.int .i64 a, .int .i64 b, .int .i64 c]) ∧ I64 a ∧ I64 b ∧ I64 c ∧ Below w.heap.size w w'
/-- Four numbers are answered; nothing that was there is written. -/
def FourNums (w : World) (e : Ending) (w' : World) : Prop :=
  ∃ a b c d : Int, e = .returned (.tuple #[.int .i64 a, .int .i64 b, .int .i64 c, .int .i64 d]) ∧ I64 a ∧ I64 b ∧ I64 c ∧ I64 d ∧ Below w.heap.size w w'

theorem results_tmp4 {fn : Func} {t u v x : Tmp} (h : fn.results = #[.tmp t, .tmp u, .tmp v, .tmp x]) (tmps : Array Value) (P : Program) (w : World) :
    (results fn tmps).run P w = .ok (.tuple #[tmps.getD t undef, tmps.getD u undef, tmps.getD v undef, tmps.getD x undef]) w := by
  simp [results, h]

end Go.Proofs.Ytagjgdgkkblidaa.Mx

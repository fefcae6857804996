/- CONTRACTS OF impl.veil AND ITS CLOSURES: two function values over one stream; each answers as told; nothing that was there is written. -/
import Derived.Test.YthbkccagpggljaaStreamA
import Derived.Deep.RegionWith
namespace Go.Proofs.Ythbkccagpggljaa.Mx
open Go.ChangeShapes Go.WideShapes Go.ChangeAt Go.RowKit
set_option linter.unusedVariables false

theorem turned_calls (by_ : Int) (p : Addr) (w : World) :
    Calls Try.prog 66 #[.int .i64 by_, .pointer (some p)] w fun e w' => e = .returned (.func (.func 67) #[] #[.pointer (some p), .pointer (some ⟨w.heap.size, 0, none⟩)]) ∧ w.alloc (.cells #[.int .i64 by_] 2) = w' := by
  have hmf : ∀ (fn : Fn) (first cap : Array Value) (w : World), (Instr.makeFunc fn first cap).run Try.prog w = .ok (.func fn first cap) w := fun _ _ _ _ => rfl
  go_enter Try.func66, Try.ntmps66
  go_wp2_with fail
  go_ret
  exact ⟨rfl, rfl⟩

/-- A function value over a stream s and a number that is added. -/
def IsTurn (w : World) (p : Nat) (s by_ : Int) (v : Value) : Prop :=
  ∃ q, v = .func (.func 67) #[] #[.pointer (some ⟨p, 0, none⟩), .pointer (some ⟨q, 0, none⟩)] ∧ w.cell? ⟨p, 0, none⟩ = some (.int .i64 s) ∧ w.cell? ⟨q, 0, none⟩ = some (.int .i64 by_)

/-- Two function values over one stream are answered. -/
def Veils (s : Int) (w : World) (e : Ending) (w' : World) : Prop :=
  ∃ (p : Nat) (u v : Value), e = .returned (.tuple #[u, v]) ∧ IsTurn w' p s s u ∧ IsTurn w' p s (10007 - s) v ∧ Below w.heap.size w w'

theorem three_cells (w : World) (t : TypeId) (x y z : Value) : (((w.alloc (.cells #[x] t)).alloc (.cells #[y] t)).alloc (.cells #[z] t)).cell? ⟨w.heap.size, 0, none⟩ = some x ∧ (((w.alloc (.cells #[x] t)).alloc (.cells #[y] t)).alloc (.cells #[z] t)).cell? ⟨w.heap.size + 1, 0, none⟩ = some y ∧ (((w.alloc (.cells #[x] t)).alloc (.cells #[y] t)).alloc (.cells #[z] t)).cell? ⟨w.heap.size + 1 + 1, 0, none⟩ = some z := by
  refine ⟨?_, ?_, ?_⟩
  · rw [World.cell?_alloc_past _ _ _ (by simp; omega), World.cell?_alloc_past _ _ _ (by simp), World.cell?_alloc_at _ _ _ _ rfl]; rfl
  · rw [World.cell?_alloc_past _ _ _ (by simp), World.cell?_alloc_at _ _ _ _ (by simp)]; rfl
  · rw [World.cell?_alloc_at _ _ _ _ (by simp)]; rfl

theorem veil_calls (s : Int) (w : World) (s0 : -1 ≤ s) (s1 : s ≤ 10006) :
    Calls Try.prog 59 #[.int .i64 s] w (Veils s w) := by
  have hmf : ∀ (fn : Fn) (first cap : Array Value) (w : World), (Instr.makeFunc fn first cap).run Try.prog w = .ok (.func fn first cap) w := fun _ _ _ _ => rfl
  have hw : IntKind.i64.wrap (10007 - s) = 10007 - s := IntWalk.i64_in _ (by omega)
  have HW := Lib.hid hw
  clear hw
  go_enter Try.func59, Try.ntmps59
  go_wp2_with fail
  go_region_with (go_at_call 66; refine (turned_calls _ _ _).mono ?_; rintro e wx ⟨rfl, rfl⟩)
  all_goals
    go_wp2_with fail
    go_ret2
    rw [HW.out]
    have K := three_cells w 2 (.int .i64 s) (.int .i64 s) (.int .i64 (10007 - s))
    have L := three_cells w 2 (.int .i64 s) (.int .i64 (10007 - s)) (.int .i64 s)
    have B := fun x y => ((((Below.refl w.heap.size w).alloc (Nat.le_refl _) (.cells #[.int .i64 s] 2)).alloc (by simp) (.cells #[x] 2)).alloc (by simp; omega) (.cells #[y] 2)).drew
    first
      | exact ⟨w.heap.size, _, _, rfl, ⟨_, rfl, K.1, K.2.1⟩, ⟨_, rfl, K.1, K.2.2⟩, B _ _⟩
      | exact ⟨w.heap.size, _, _, rfl, ⟨_, rfl, L.1, L.2.2⟩, ⟨_, rfl, L.1, L.2.1⟩, B _ _⟩
end Go.Proofs.Ythbkccagpggljaa.Mx

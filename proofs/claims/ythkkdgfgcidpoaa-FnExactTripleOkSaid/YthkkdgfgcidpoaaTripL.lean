/- THE WALKS OF laws.FnExactTripleOk, FnExactTagOf: each returns true at every argument, and writes nothing that was there. -/
import Derived.Test.YthkkdgfgcidpoaaTripB
namespace Go.Proofs.Ythkkdgfgcidpoaa.Mx
open Go.ChangeShapes Go.WideShapes Go.ChangeAt Go.RowKit Go.Maps
set_option linter.unusedVariables false

/-- A triple of the laws' own type, copied. -/
theorem toTriple_calls (a t v : Int) (w : World) :
    Calls Try.prog 15 #[.agg #[.int .i64 a, .int .i64 t, .int .i64 v]] w fun e w' => e = .returned (.agg #[.int .i64 a, .int .i64 t, .int .i64 v]) ∧ Below w.heap.size w w' := by
  go_enter Try.func15, Try.ntmps15
  go_wp2_with fail
  exact bodyPost_ret (v := .agg #[.int .i64 a, .int .i64 t, .int .i64 v]) (by simp [results, Try.results15, go_sem]) rfl ⟨rfl, (((Below.refl _ _).alloc (Nat.le_refl _) _).alloc (by simp) _).alloc (by simp; omega) _⟩

/-- A copy of a boxed triple, in a world that has grown since. -/
theorem tripleOkLaw_calls (a t v : Int) (w : World) :
    Calls Try.prog 4 #[.agg #[.int .i64 a, .int .i64 t, .int .i64 v]] w fun e w' => e = .returned (.bool true) ∧ Below w.heap.size w w' := by
  have T := Lib.hid (fun w => toTriple_calls a t v w)
  have C := Lib.hid (fun w => tripleOk_calls a t v w)
  have D := Lib.hid (fun w => specTripleOk_calls a t v w)
  have hb := CellsAt.new w 35 #[.int .i64 a, .int .i64 t, .int .i64 v]
  have HB := Lib.hid hb
  clear hb
  generalize decide (isTri a t v) = b at C D
  go_enter Try.func4, Try.ntmps4
  go_wp2_with fail
  refine (T.out _).mono ?_; rintro e w1 ⟨rfl, b1⟩
  have B1 := Lib.hid b1
  clear b1
  go_wp2_with fail
  refine (D.out _).mono ?_; rintro e w2 ⟨rfl, b2⟩
  have B2 := Lib.hid (B1.out.trans (b2.mono B1.out.size))
  have hc := HB.out.below B2.out (by simp)
  have c0 : w2.cell? ⟨w.heap.size, 0, none⟩ = some (.int .i64 a) := hc.cell 0
  have c1 : w2.cell? ⟨w.heap.size, 1, none⟩ = some (.int .i64 t) := hc.cell 1
  have c2 : w2.cell? ⟨w.heap.size, 2, none⟩ = some (.int .i64 v) := hc.cell 2
  clear b2 hc B1
  go_wp2_with fail
  refine (T.out _).mono ?_; rintro e w3 ⟨rfl, b3⟩
  have B3 := Lib.hid (B2.out.trans (b3.mono B2.out.size))
  clear b3 B2
  go_wp2_with fail
  refine (C.out _).mono ?_; rintro e w4 ⟨rfl, b4⟩
  have B4 := Lib.hid (B3.out.trans (b4.mono B3.out.size))
  clear b4 B3
  go_wp2_with fail
  go_ret
  exact ⟨rfl, ((Below.refl w.heap.size w).alloc (Nat.le_refl _) _).trans (B4.out.mono (by simp))⟩

theorem tagLaw_calls (key a t v : Int) (w : World) (ha : I64 a) (ht : I64 t) (hv : I64 v) :
    Calls Try.prog 5 #[.int .i64 key, .agg #[.int .i64 a, .int .i64 t, .int .i64 v]] w fun e w' => e = .returned (.bool true) ∧ Below w.heap.size w w' := by
  have T := Lib.hid (fun w => toTriple_calls a t v w)
  have C := Lib.hid (fun w => tag_calls key a t v w ha ht hv)
  have D := Lib.hid (fun w => specTag_calls key a t v w)
  have HB := Lib.hid (CellsAt.new w 35 #[.int .i64 a, .int .i64 t, .int .i64 v])
  generalize tagOf key a t v = b at C D
  clear ha ht hv
  go_enter Try.func5, Try.ntmps5
  go_wp2_with fail
  refine (T.out _).mono ?_; rintro e w1 ⟨rfl, b1⟩
  have B1 := Lib.hid b1
  clear b1
  go_wp2_with fail
  refine (D.out _).mono ?_; rintro e w2 ⟨rfl, b2⟩
  have B2 := Lib.hid (B1.out.trans (b2.mono B1.out.size))
  have hc := HB.out.below B2.out (by simp)
  have c0 : w2.cell? ⟨w.heap.size, 0, none⟩ = some (.int .i64 a) := hc.cell 0
  have c1 : w2.cell? ⟨w.heap.size, 1, none⟩ = some (.int .i64 t) := hc.cell 1
  have c2 : w2.cell? ⟨w.heap.size, 2, none⟩ = some (.int .i64 v) := hc.cell 2
  clear b2 hc B1
  go_wp2_with fail
  refine (T.out _).mono ?_; rintro e w3 ⟨rfl, b3⟩
  have B3 := Lib.hid (B2.out.trans (b3.mono B2.out.size))
  clear b3 B2
  go_wp2_with fail
  refine (C.out _).mono ?_; rintro e w4 ⟨rfl, b4⟩
  have B4 := Lib.hid (B3.out.trans (b4.mono B3.out.size))
  clear b4 B3
  go_wp2_with fail
  go_ret
  exact ⟨rfl, ((Below.refl w.heap.size w).alloc (Nat.le_refl _) _).trans (B4.out.mono (by simp))⟩
end Go.Proofs.Ythkkdgfgcidpoaa.Mx

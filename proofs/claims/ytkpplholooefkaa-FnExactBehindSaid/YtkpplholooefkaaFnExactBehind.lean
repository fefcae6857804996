/-
At every plan, trust and region the law FnExactBehind returns true and leaves the plan as it was: impl.Behind answers just what spec.Behind answers. No condition: every plan, of whatever length, and every numbers of type int64.
-/
import Derived.Test.YtkpplholooefkaaBehindL
import Derived.Test.YtkpplholooefkaaBehindI
import Derived.Test.YtkpplholooefkaaOpenP
import Derived.Test.YtkpplholooefkaaOpenA
import Derived.Test.YtkpplholooefkaaOpen
import Derived.Test.YtkpplholooefkaaRows
import Derived.WalkKit
import Derived.ProofKit
import Derived.OpenShut
import Derived.ShutString
import Derived.ChangeOld
import Derived.Below
import Derived.Lib.SmallJoins
namespace Go.Proofs.Ytkpplholooefkaa.fnExactBehind
open Go.ChangeShapes Go.WideShapes Go.ChangeAt Go.RowKit
set_option linter.unusedVariables false

theorem own : ownKnob Try.prog.godebug = none := by kernel_rfl
theorem laidOut : laidOutB Try.prog = true := by kernel_rfl

theorem walk (a0_0 : Int) (a0_1 : Option Addr) (len0_1 cap0_1 : Nat) (z0_1 : List Int) (a1_0 : Int) (a1_1 : Int) (a1_2 : Int) (a1_3 : Int) (a1_4 : Int) (a1_5 : Int) (a1_6 : Int) (a1_7 : Bool) (a2 : Int) (w : World) (w0_0 : Mx.I64 a0_0) (w0_1 : Mx.IsRow .i64 w a0_1 len0_1 cap0_1 z0_1) (w1_0 : Mx.I64 a1_0) (w1_1 : Mx.I64 a1_1) (w1_2 : Mx.I64 a1_2) (w1_3 : Mx.I64 a1_3) (w1_4 : Mx.I64 a1_4) (w1_5 : Mx.I64 a1_5) (w1_6 : Mx.I64 a1_6) (w2 : Mx.I64 a2) :
    Calls Try.prog 5 #[.agg #[.int .i64 a0_0, .slice a0_1 len0_1 cap0_1], .agg #[.int .i64 a1_0, .int .i64 a1_1, .int .i64 a1_2, .int .i64 a1_3, .int .i64 a1_4, .int .i64 a1_5, .int .i64 a1_6, .bool a1_7], .int .i64 a2] w fun e w' => e = .returned (.bool true) ∧ Below w.heap.size w w' := by
  obtain ⟨l, rfl, hA, hn, hc⟩ := w0_1.list
  exact Mx.behindLaw_calls Mx.ansBehind a0_0 a2 a0_1 l cap0_1 a1_0 a1_1 a1_2 a1_3 a1_4 a1_5 a1_6 a1_7 w hn hA w0_0 w2 ⟨w1_0, w1_1, w1_2, w1_3, w1_4, w1_5, w1_6⟩

set_option maxRecDepth 100000 in
theorem lifted (os : Os) (started : os.Started) (H : Type) (enc : TypeId × Value → H) :
    ReturnsInHanded {} Try.checked os 5 .any (Rows.fnExactBehindSpec.pre6 enc Try.prog Try.f5 Rows.fnExactBehindRow.domain false) (Rows.fnExactBehindSpec.post enc Try.prog Try.f5 false true false false) := by
  refine returnsInHanded_of_change (C := Try.checked) own started (by kernel_rfl) Try.func5
    (ChangeSpec.witness6 (enc := enc) (C := Try.checked) false ⟨#[], #[.agg #[.int .i64 0, .slice none 0 0], .agg #[.int .i64 0, .int .i64 0, .int .i64 0, .int .i64 0, .int .i64 0, .int .i64 0, .int .i64 0, .bool false], .int .i64 0], []⟩ 8 (by kernel_rfl) (by kernel_rfl) (by kernel_rfl) (by kernel_rfl)) ?_
  intro W base args ds gs before hval0 hW hcnd _
  have hval : ∀ (j : Nat) t v, Try.f5.params[j]? = some t → args[j]? = some v → Value.okWide Try.prog W .any base t v := hval0
  have hW' := hW
  obtain ⟨p, q, hA0, hV, rfl, hfz, hnd⟩ := hW
  have hA : DataW.TrodAll enc Try.prog W 0 (fun _ => true) true Try.f5.params.toList args.toList ds p := hA0
  rw [Try.params5] at hA hval
  obtain ⟨v0, vs0, d0, ds0, p0, q0, hargs, rfl, rfl, h0, r0⟩ := trodAll_cons hA
  obtain ⟨v1, vs1, d1, ds1, p1, q1, rfl, rfl, rfl, h1, r1⟩ := trodAll_cons r0
  obtain ⟨v2, vs2, d2, ds2, p2, q2, rfl, rfl, rfl, h2, r2⟩ := trodAll_cons r1
  obtain ⟨rfl, rfl, rfl⟩ := trodAll_nil r2
  obtain rfl : args = #[v0, v1, v2] := by cases args; simp_all
  obtain ⟨rfl, rfl⟩ := trodVars_none hV
  have k0 := h0
  have lt0 : ∀ x ∈ p0, x.block < W.heap.size := by obtain ⟨m, hm⟩ := k0; exact DataW.trod_lt m _ _ _ hm
  have k1 := h1
  have lt1 : ∀ x ∈ p1, x.block < W.heap.size := by obtain ⟨m, hm⟩ := k1; exact DataW.trod_lt m _ _ _ hm
  have k2 := h2
  have lt2 : ∀ x ∈ p2, x.block < W.heap.size := by obtain ⟨m, hm⟩ := k2; exact DataW.trod_lt m _ _ _ hm
  obtain ⟨x0_0, x0_1, y0_0, y0_1, m0, rfl, rfl, rfl, t0_0, t0_1⟩ := Joins.open_agg2 Try.underlying24 (by kernel_rfl) (by kernel_rfl) (hval 0 24 v0 rfl rfl) h0
  obtain ⟨a0_0, rfl, w0_0⟩ := Mx.int_of_trod Try.underlying2 t0_0
  obtain ⟨a0_1, len0_1, cap0_1, z0_1, rfl, w0_1⟩ := Mx.row_of_field Try.underlying22 Try.underlying2 (by kernel_rfl) t0_1
  obtain ⟨cs1, rfl, z1, f1⟩ := Mx.agg_of_trod Try.underlying26 (by kernel_rfl) (by kernel_rfl) (hval 1 26 v1 rfl rfl) h1
  obtain ⟨x1_0, m1_0, y1_0, g1_0, t1_0⟩ := f1 0 _ rfl
  obtain ⟨a1_0, rfl, w1_0⟩ := Mx.int_of_trod Try.underlying2 t1_0
  obtain ⟨x1_1, m1_1, y1_1, g1_1, t1_1⟩ := f1 1 _ rfl
  obtain ⟨a1_1, rfl, w1_1⟩ := Mx.int_of_trod Try.underlying2 t1_1
  obtain ⟨x1_2, m1_2, y1_2, g1_2, t1_2⟩ := f1 2 _ rfl
  obtain ⟨a1_2, rfl, w1_2⟩ := Mx.int_of_trod Try.underlying2 t1_2
  obtain ⟨x1_3, m1_3, y1_3, g1_3, t1_3⟩ := f1 3 _ rfl
  obtain ⟨a1_3, rfl, w1_3⟩ := Mx.int_of_trod Try.underlying2 t1_3
  obtain ⟨x1_4, m1_4, y1_4, g1_4, t1_4⟩ := f1 4 _ rfl
  obtain ⟨a1_4, rfl, w1_4⟩ := Mx.int_of_trod Try.underlying2 t1_4
  obtain ⟨x1_5, m1_5, y1_5, g1_5, t1_5⟩ := f1 5 _ rfl
  obtain ⟨a1_5, rfl, w1_5⟩ := Mx.int_of_trod Try.underlying2 t1_5
  obtain ⟨x1_6, m1_6, y1_6, g1_6, t1_6⟩ := f1 6 _ rfl
  obtain ⟨a1_6, rfl, w1_6⟩ := Mx.int_of_trod Try.underlying2 t1_6
  obtain ⟨x1_7, m1_7, y1_7, g1_7, t1_7⟩ := f1 7 _ rfl
  obtain ⟨a1_7, rfl⟩ := Mx.bool_of_trod Try.underlying4 t1_7
  obtain rfl := Mx.eight z1 g1_0 g1_1 g1_2 g1_3 g1_4 g1_5 g1_6 g1_7
  obtain ⟨a2, rfl, rfl, rfl, w2'⟩ := open_int Try.underlying2 (hval 2 2 v2 rfl rfl) h2
  have w2 : Mx.I64 a2 := bounds_i64 w2'
  clear hA0 hval0
  refine (walk a0_0 a0_1 len0_1 cap0_1 z0_1 a1_0 a1_1 a1_2 a1_3 a1_4 a1_5 a1_6 a1_7 a2 W w0_0 w0_1 w1_0 w1_1 w1_2 w1_3 w1_4 w1_5 w1_6 w2).mono fun e W' ⟨he, bel⟩ => ?_
  subst he
  exact ⟨_, rfl, _, _, _, [], _, [], hW', trodAll_mk1 (shut_bool Try.underlying4 _), (trodAll_cons_mk (Below.trod laidOut (by kernel_rfl) (of_decide_eq_true (by kernel_rfl)) k0 bel lt0) (trodAll_cons_mk (Below.trod laidOut (by kernel_rfl) (of_decide_eq_true (by kernel_rfl)) k1 bel lt1) (trodAll_cons_mk (Below.trod laidOut (by kernel_rfl) (of_decide_eq_true (by kernel_rfl)) k2 bel lt2) trodAll_mk0))), rfl, bel.frame _, fun h => by cases h⟩

theorem over : Rows.fnExactBehindRow.holds Try.pinned (OpenSpec.ofChange Rows.fnExactBehindSpec) :=
  OpenClaim.holds_of_wide 5 Try.f5 rfl rfl rfl rfl rfl rfl rfl ⟨rfl, rfl, rfl, rfl, rfl⟩ rfl rfl rfl rfl rfl (by kernel_rfl) Try.func5 (by kernel_rfl)
    (of_decide_eq_true (by kernel_rfl)) (by unfold Func.isWrapper; first | (rw [if_pos (by decide +kernel)]; kernel_rfl) | (rw [if_neg (by decide +kernel)]; exact ⟨rfl, rfl⟩))
    (fun os started H enc _ => lifted os started H enc)

/-- ████ THE STATEMENT ████ -/
theorem proved : Rows.FnExactBehindSaid := over
#print axioms proved
end Go.Proofs.Ytkpplholooefkaa.fnExactBehind

/-
At every plan, region and trust the law FnExactTrustOk returns true and leaves the plan as it was: impl.TrustOk answers just what spec.TrustOk answers. No condition: every plan, of whatever length, and every numbers of type int64.
-/
import Derived.Test.YtkpplholooefkaaBehindL
import Derived.Test.YtkpplholooefkaaTrustI
import Derived.Test.YtkpplholooefkaaOpenP
import Derived.Test.YtkpplholooefkaaOpenA
import Derived.Test.YtkpplholooefkaaOpen
import Derived.Test.YtkpplholooefkaaRows
import Derived.WalkKit
import Derived.ProofKit
import Derived.OpenShut
import Derived.ShutString
import Derived.ChangeOld
import Derived.Below
import Derived.Lib.SmallJoins
namespace Go.Proofs.Ytkpplholooefkaa.fnExactTrustOk
open Go.ChangeShapes Go.WideShapes Go.ChangeAt Go.RowKit
set_option linter.unusedVariables false

theorem own : ownKnob Try.prog.godebug = none := by kernel_rfl
theorem laidOut : laidOutB Try.prog = true := by kernel_rfl

theorem walk (a0_0 : Int) (a0_1 : Option Addr) (len0_1 cap0_1 : Nat) (z0_1 : List Int) (a1 : Int) (a2_0 : Int) (a2_1 : Int) (a2_2 : Int) (a2_3 : Int) (a2_4 : Int) (a2_5 : Int) (a2_6 : Int) (a2_7 : Bool) (w : World) (w0_0 : Mx.I64 a0_0) (w0_1 : Mx.IsRow .i64 w a0_1 len0_1 cap0_1 z0_1) (w1 : Mx.I64 a1) (w2_0 : Mx.I64 a2_0) (w2_1 : Mx.I64 a2_1) (w2_2 : Mx.I64 a2_2) (w2_3 : Mx.I64 a2_3) (w2_4 : Mx.I64 a2_4) (w2_5 : Mx.I64 a2_5) (w2_6 : Mx.I64 a2_6) :
    Calls Try.prog 3 #[.agg #[.int .i64 a0_0, .slice a0_1 len0_1 cap0_1], .int .i64 a1, .agg #[.int .i64 a2_0, .int .i64 a2_1, .int .i64 a2_2, .int .i64 a2_3, .int .i64 a2_4, .int .i64 a2_5, .int .i64 a2_6, .bool a2_7]] w fun e w' => e = .returned (.bool true) ∧ Below w.heap.size w w' := by
  obtain ⟨l, rfl, hA, hn, hc⟩ := w0_1.list
  exact Mx.trustOkLaw_calls Mx.ansTrustOk a0_0 a1 a0_1 l cap0_1 a2_0 a2_1 a2_2 a2_3 a2_4 a2_5 a2_6 a2_7 w hn hA w0_0 w1 ⟨w2_0, w2_1, w2_2, w2_3, w2_4, w2_5, w2_6⟩

set_option maxRecDepth 100000 in
theorem lifted (os : Os) (started : os.Started) (H : Type) (enc : TypeId × Value → H) :
    ReturnsInHanded {} Try.checked os 3 .any (Rows.fnExactTrustOkSpec.pre6 enc Try.prog Try.f3 Rows.fnExactTrustOkRow.domain false) (Rows.fnExactTrustOkSpec.post enc Try.prog Try.f3 false true false false) := by
  refine returnsInHanded_of_change (C := Try.checked) own started (by kernel_rfl) Try.func3
    (ChangeSpec.witness6 (enc := enc) (C := Try.checked) false ⟨#[], #[.agg #[.int .i64 0, .slice none 0 0], .int .i64 0, .agg #[.int .i64 0, .int .i64 0, .int .i64 0, .int .i64 0, .int .i64 0, .int .i64 0, .int .i64 0, .bool false]], []⟩ 8 (by kernel_rfl) (by kernel_rfl) (by kernel_rfl) (by kernel_rfl)) ?_
  intro W base args ds gs before hval0 hW hcnd _
  have hval : ∀ (j : Nat) t v, Try.f3.params[j]? = some t → args[j]? = some v → Value.okWide Try.prog W .any base t v := hval0
  have hW' := hW
  obtain ⟨p, q, hA0, hV, rfl, hfz, hnd⟩ := hW
  have hA : DataW.TrodAll enc Try.prog W 0 (fun _ => true) true Try.f3.params.toList args.toList ds p := hA0
  rw [Try.params3] at hA hval
  obtain ⟨v0, vs0, d0, ds0, p0, q0, hargs, rfl, rfl, h0, r0⟩ := trodAll_cons hA
  obtain ⟨v1, vs1, d1, ds1, p1, q1, rfl, rfl, rfl, h1, r1⟩ := trodAll_cons r0
  obtain ⟨v2, vs2, d2, ds2, p2, q2, rfl, rfl, rfl, h2, r2⟩ := trodAll_cons r1
  obtain ⟨rfl, rfl, rfl⟩ := trodAll_nil r2
  obtain rfl : args = #[v0, v1, v2] := by cases args; simp_all
  obtain ⟨rfl, rfl⟩ := trodVars_none hV
  have k0 := h0
  have lt0 : ∀ x ∈ p0, x.block < W.heap.size := by obtain ⟨m, hm⟩ := k0; exact DataW.trod_lt m _ _ _ hm
  have k1 := h1
  have lt1 : ∀ x ∈ p1, x.block < W.heap.size := by obtain ⟨m, hm⟩ := k1; exact DataW.trod_lt m _ _ _ hm
  have k2 := h2
  have lt2 : ∀ x ∈ p2, x.block < W.heap.size := by obtain ⟨m, hm⟩ := k2; exact DataW.trod_lt m _ _ _ hm
  obtain ⟨x0_0, x0_1, y0_0, y0_1, m0, rfl, rfl, rfl, t0_0, t0_1⟩ := Joins.open_agg2 Try.underlying24 (by kernel_rfl) (by kernel_rfl) (hval 0 24 v0 rfl rfl) h0
  obtain ⟨a0_0, rfl, w0_0⟩ := Mx.int_of_trod Try.underlying2 t0_0
  obtain ⟨a0_1, len0_1, cap0_1, z0_1, rfl, w0_1⟩ := Mx.row_of_field Try.underlying22 Try.underlying2 (by kernel_rfl) t0_1
  obtain ⟨a1, rfl, rfl, rfl, w1'⟩ := open_int Try.underlying2 (hval 1 2 v1 rfl rfl) h1
  have w1 : Mx.I64 a1 := bounds_i64 w1'
  obtain ⟨cs2, rfl, z2, f2⟩ := Mx.agg_of_trod Try.underlying26 (by kernel_rfl) (by kernel_rfl) (hval 2 26 v2 rfl rfl) h2
  obtain ⟨x2_0, m2_0, y2_0, g2_0, t2_0⟩ := f2 0 _ rfl
  obtain ⟨a2_0, rfl, w2_0⟩ := Mx.int_of_trod Try.underlying2 t2_0
  obtain ⟨x2_1, m2_1, y2_1, g2_1, t2_1⟩ := f2 1 _ rfl
  obtain ⟨a2_1, rfl, w2_1⟩ := Mx.int_of_trod Try.underlying2 t2_1
  obtain ⟨x2_2, m2_2, y2_2, g2_2, t2_2⟩ := f2 2 _ rfl
  obtain ⟨a2_2, rfl, w2_2⟩ := Mx.int_of_trod Try.underlying2 t2_2
  obtain ⟨x2_3, m2_3, y2_3, g2_3, t2_3⟩ := f2 3 _ rfl
  obtain ⟨a2_3, rfl, w2_3⟩ := Mx.int_of_trod Try.underlying2 t2_3
  obtain ⟨x2_4, m2_4, y2_4, g2_4, t2_4⟩ := f2 4 _ rfl
  obtain ⟨a2_4, rfl, w2_4⟩ := Mx.int_of_trod Try.underlying2 t2_4
  obtain ⟨x2_5, m2_5, y2_5, g2_5, t2_5⟩ := f2 5 _ rfl
  obtain ⟨a2_5, rfl, w2_5⟩ := Mx.int_of_trod Try.underlying2 t2_5
  obtain ⟨x2_6, m2_6, y2_6, g2_6, t2_6⟩ := f2 6 _ rfl
  obtain ⟨a2_6, rfl, w2_6⟩ := Mx.int_of_trod Try.underlying2 t2_6
  obtain ⟨x2_7, m2_7, y2_7, g2_7, t2_7⟩ := f2 7 _ rfl
  obtain ⟨a2_7, rfl⟩ := Mx.bool_of_trod Try.underlying4 t2_7
  obtain rfl := Mx.eight z2 g2_0 g2_1 g2_2 g2_3 g2_4 g2_5 g2_6 g2_7
  clear hA0 hval0
  refine (walk a0_0 a0_1 len0_1 cap0_1 z0_1 a1 a2_0 a2_1 a2_2 a2_3 a2_4 a2_5 a2_6 a2_7 W w0_0 w0_1 w1 w2_0 w2_1 w2_2 w2_3 w2_4 w2_5 w2_6).mono fun e W' ⟨he, bel⟩ => ?_
  subst he
  exact ⟨_, rfl, _, _, _, [], _, [], hW', trodAll_mk1 (shut_bool Try.underlying4 _), (trodAll_cons_mk (Below.trod laidOut (by kernel_rfl) (of_decide_eq_true (by kernel_rfl)) k0 bel lt0) (trodAll_cons_mk (Below.trod laidOut (by kernel_rfl) (of_decide_eq_true (by kernel_rfl)) k1 bel lt1) (trodAll_cons_mk (Below.trod laidOut (by kernel_rfl) (of_decide_eq_true (by kernel_rfl)) k2 bel lt2) trodAll_mk0))), rfl, bel.frame _, fun h => by cases h⟩

theorem over : Rows.fnExactTrustOkRow.holds Try.pinned (OpenSpec.ofChange Rows.fnExactTrustOkSpec) :=
  OpenClaim.holds_of_wide 3 Try.f3 rfl rfl rfl rfl rfl rfl rfl ⟨rfl, rfl, rfl, rfl, rfl⟩ rfl rfl rfl rfl rfl (by kernel_rfl) Try.func3 (by kernel_rfl)
    (of_decide_eq_true (by kernel_rfl)) (by unfold Func.isWrapper; first | (rw [if_pos (by decide +kernel)]; kernel_rfl) | (rw [if_neg (by decide +kernel)]; exact ⟨rfl, rfl⟩))
    (fun os started H enc _ => lifted os started H enc)

/-- ████ THE STATEMENT ████ -/
theorem proved : Rows.FnExactTrustOkSaid := over
#print axioms proved
end Go.Proofs.Ytkpplholooefkaa.fnExactTrustOk

/-
At every plan, trust, sector, cell and value the law FnExactTouched returns true and leaves the plan as it was: impl.Touched answers just what spec.Touched answers. No condition on the arguments: every plan, of whatever length, and every numbers of type int64. The row lists package-level variables (errors.errorType and the code's four sentinels) with what they hold when the call begins; the card ties that to the program's text, by the given tie (of a pruned copy of the project: the packages that this seat's roots load).
-/
import Derived.Test.YteopplldbcgjjaaGreatDoorE15
import Derived.Test.YteopplldbcgjjaaGreatDoorCards
import Derived.Test.YteopplldbcgjjaaGreatDoorTie
import Derived.OpenVars
import Derived.LaidMore
import Derived.SevenTiedAt
import Derived.Stop.Joined
import Derived.Test.YteopplldbcgjjaaGreatDoorRows
import Derived.WalkKit
import Derived.ProofKit
import Derived.OpenShut
import Derived.ShutString
import Derived.ChangeOld
import Derived.Below
import Derived.Lib.SmallJoins
namespace Go.Proofs.YteopplldbcgjjaaGreatDoor.fnExactTouched
open Go.ChangeShapes Go.WideShapes Go.ChangeAt Go.RowKit
set_option linter.unusedVariables false

theorem own : ownKnob Tryz.prog.godebug = none := by kernel_rfl
theorem laidOut : laidOutB Tryz.prog = true := by kernel_rfl

theorem walk (a0_0 : Int) (a0_1 : Option Addr) (len0_1 cap0_1 : Nat) (z0_1 : List Int) (a1_0 : Int) (a1_1 : Int) (a1_2 : Int) (a1_3 : Int) (a1_4 : Int) (a1_5 : Int) (a1_6 : Int) (a1_7 : Bool) (a2 : Int) (a3_0 : Int) (a3_1 : Int) (a4 : Int) (e0 e1 e2 e3 : Addr) (w : World) (w0_0 : Mx.I64 a0_0) (w0_1 : Mx.IsRow .i64 w a0_1 len0_1 cap0_1 z0_1) (w1_0 : Mx.I64 a1_0) (w1_1 : Mx.I64 a1_1) (w1_2 : Mx.I64 a1_2) (w1_3 : Mx.I64 a1_3) (w1_4 : Mx.I64 a1_4) (w1_5 : Mx.I64 a1_5) (w1_6 : Mx.I64 a1_6) (w2 : Mx.I64 a2) (w3_0 : Mx.I64 a3_0) (w3_1 : Mx.I64 a3_1) (w4 : Mx.I64 a4) (hE : Mx.Errs w e0 e1 e2 e3) :
    Calls Tryz.prog 5 #[.agg #[.int .i64 a0_0, .slice a0_1 len0_1 cap0_1], .agg #[.int .i64 a1_0, .int .i64 a1_1, .int .i64 a1_2, .int .i64 a1_3, .int .i64 a1_4, .int .i64 a1_5, .int .i64 a1_6, .bool a1_7], .int .i64 a2, .agg #[.int .i64 a3_0, .int .i64 a3_1], .int .i64 a4] w fun e w' => e = .returned (.bool true) ∧ Below w.heap.size w w' := by
  obtain ⟨l, rfl, hA, hn, hc⟩ := w0_1.list
  exact Mx.touchedLaw_calls e0 e1 e2 e3 a0_0 a2 a3_0 a3_1 a4 a0_1 l cap0_1 a1_0 a1_1 a1_2 a1_3 a1_4 a1_5 a1_6 a1_7 w hn hA w2 w3_0 w3_1 hE

set_option maxRecDepth 100000 in
theorem lifted (os : Os) (started : os.Started) (H : Type) (enc : TypeId × Value → H) :
    ReturnsInHanded {} Tryz.checked os 5 .any (fun w args => (Rows.fnExactTouchedSpec.pre enc Tryz.prog Tryz.f5 [] false w args ∧ laidMetH Tryz.prog Mx.Laid5 w) ∧ sizedMet enc Tryz.prog Tryz.f5 (OpenSpec.ofChange Rows.fnExactTouchedSpec) false w args) (Rows.fnExactTouchedSpec.post enc Tryz.prog Tryz.f5 false true false false) := by
  refine returnsInHanded_of_change_and (C := Tryz.checked) (X := fun w _ => laidMetH Tryz.prog Mx.Laid5 w) (fun _ _ _ hh h => h.of_heap hh) own started (by kernel_rfl) Tryz.func5
    (ChangeSpec.witness_shaped (enc := enc) (C := Tryz.checked) (os := os) (X := fun w _ => laidMetH Tryz.prog Mx.Laid5 w) false (World.doorLaid Tryz.prog 400 os) #[.agg #[.int .i64 0, .slice none 0 0], .agg #[.int .i64 0, .int .i64 0, .int .i64 0, .int .i64 0, .int .i64 0, .int .i64 0, .int .i64 0, .bool false], .int .i64 0, .agg #[.int .i64 0, .int .i64 0], .int .i64 0] 8 rfl (World.shaped_of_RefB (by kernel_rfl) (by kernel_rfl)) (by kernel_rfl) (by kernel_rfl) (by kernel_rfl) (Mx.door_met os _)) ?_
  intro W base args ds gs before hval0 hW _ _ hL _
  have hval : ∀ (j : Nat) t v, Tryz.f5.params[j]? = some t → args[j]? = some v → Value.okWide Tryz.prog W .any base t v := hval0
  have hW' := hW
  obtain ⟨p, q, hA0, hV, rfl, hfz, hnd⟩ := hW
  have hA : DataW.TrodAll enc Tryz.prog W 0 (fun _ => true) true Tryz.f5.params.toList args.toList ds p := hA0
  rw [Tryz.params5] at hA hval
  obtain ⟨v0, vs0, d0, ds0, p0, q0, hargs, rfl, rfl, h0, r0⟩ := trodAll_cons hA
  obtain ⟨v1, vs1, d1, ds1, p1, q1, rfl, rfl, rfl, h1, r1⟩ := trodAll_cons r0
  obtain ⟨v2, vs2, d2, ds2, p2, q2, rfl, rfl, rfl, h2, r2⟩ := trodAll_cons r1
  obtain ⟨v3, vs3, d3, ds3, p3, q3, rfl, rfl, rfl, h3, r3⟩ := trodAll_cons r2
  obtain ⟨v4, vs4, d4, ds4, p4, q4, rfl, rfl, rfl, h4, r4⟩ := trodAll_cons r3
  obtain ⟨rfl, rfl, rfl⟩ := trodAll_nil r4
  obtain rfl : args = #[v0, v1, v2, v3, v4] := by cases args; simp_all
  have hVV := hV
  obtain ⟨j0, j1, j2, j3, rfl⟩ := Mx.trodVars_four hVV
  obtain ⟨e0, e1, e2, e3, hE⟩ := Mx.errs_of_laid hL
  have k0 := h0
  have lt0 : ∀ x ∈ p0, x.block < W.heap.size := by obtain ⟨m, hm⟩ := k0; exact DataW.trod_lt m _ _ _ hm
  have k1 := h1
  have lt1 : ∀ x ∈ p1, x.block < W.heap.size := by obtain ⟨m, hm⟩ := k1; exact DataW.trod_lt m _ _ _ hm
  have k2 := h2
  have lt2 : ∀ x ∈ p2, x.block < W.heap.size := by obtain ⟨m, hm⟩ := k2; exact DataW.trod_lt m _ _ _ hm
  have k3 := h3
  have lt3 : ∀ x ∈ p3, x.block < W.heap.size := by obtain ⟨m, hm⟩ := k3; exact DataW.trod_lt m _ _ _ hm
  have k4 := h4
  have lt4 : ∀ x ∈ p4, x.block < W.heap.size := by obtain ⟨m, hm⟩ := k4; exact DataW.trod_lt m _ _ _ hm
  obtain ⟨x0_0, x0_1, y0_0, y0_1, m0, rfl, rfl, rfl, t0_0, t0_1⟩ := Joins.open_agg2 Tryz.underlying49 (by kernel_rfl) (by kernel_rfl) (hval 0 49 v0 rfl rfl) h0
  obtain ⟨a0_0, rfl, w0_0⟩ := Mx.int_of_trod Tryz.underlying2 t0_0
  obtain ⟨a0_1, len0_1, cap0_1, z0_1, rfl, w0_1⟩ := Mx.row_of_field Tryz.underlying24 Tryz.underlying2 (by kernel_rfl) t0_1
  obtain ⟨cs1, rfl, z1, f1⟩ := Mx.agg_of_trod Tryz.underlying50 (by kernel_rfl) (by kernel_rfl) (hval 1 50 v1 rfl rfl) h1
  obtain ⟨x1_0, m1_0, y1_0, g1_0, t1_0⟩ := f1 0 _ rfl
  obtain ⟨a1_0, rfl, w1_0⟩ := Mx.int_of_trod Tryz.underlying2 t1_0
  obtain ⟨x1_1, m1_1, y1_1, g1_1, t1_1⟩ := f1 1 _ rfl
  obtain ⟨a1_1, rfl, w1_1⟩ := Mx.int_of_trod Tryz.underlying2 t1_1
  obtain ⟨x1_2, m1_2, y1_2, g1_2, t1_2⟩ := f1 2 _ rfl
  obtain ⟨a1_2, rfl, w1_2⟩ := Mx.int_of_trod Tryz.underlying2 t1_2
  obtain ⟨x1_3, m1_3, y1_3, g1_3, t1_3⟩ := f1 3 _ rfl
  obtain ⟨a1_3, rfl, w1_3⟩ := Mx.int_of_trod Tryz.underlying2 t1_3
  obtain ⟨x1_4, m1_4, y1_4, g1_4, t1_4⟩ := f1 4 _ rfl
  obtain ⟨a1_4, rfl, w1_4⟩ := Mx.int_of_trod Tryz.underlying2 t1_4
  obtain ⟨x1_5, m1_5, y1_5, g1_5, t1_5⟩ := f1 5 _ rfl
  obtain ⟨a1_5, rfl, w1_5⟩ := Mx.int_of_trod Tryz.underlying2 t1_5
  obtain ⟨x1_6, m1_6, y1_6, g1_6, t1_6⟩ := f1 6 _ rfl
  obtain ⟨a1_6, rfl, w1_6⟩ := Mx.int_of_trod Tryz.underlying2 t1_6
  obtain ⟨x1_7, m1_7, y1_7, g1_7, t1_7⟩ := f1 7 _ rfl
  obtain ⟨a1_7, rfl⟩ := Mx.bool_of_trod Tryz.underlying4 t1_7
  obtain rfl := Mx.eight z1 g1_0 g1_1 g1_2 g1_3 g1_4 g1_5 g1_6 g1_7
  obtain ⟨a2, rfl, rfl, rfl, w2'⟩ := open_int Tryz.underlying2 (hval 2 2 v2 rfl rfl) h2
  have w2 : Mx.I64 a2 := bounds_i64 w2'
  obtain ⟨x3_0, x3_1, y3_0, y3_1, m3, rfl, rfl, rfl, t3_0, t3_1⟩ := Joins.open_agg2 Tryz.underlying51 (by kernel_rfl) (by kernel_rfl) (hval 3 51 v3 rfl rfl) h3
  obtain ⟨a3_0, rfl, w3_0⟩ := Mx.int_of_trod Tryz.underlying2 t3_0
  obtain ⟨a3_1, rfl, w3_1⟩ := Mx.int_of_trod Tryz.underlying2 t3_1
  obtain ⟨a4, rfl, rfl, rfl, w4'⟩ := open_int Tryz.underlying2 (hval 4 2 v4 rfl rfl) h4
  have w4 : Mx.I64 a4 := bounds_i64 w4'
  clear hA0 hval0
  refine (walk a0_0 a0_1 len0_1 cap0_1 z0_1 a1_0 a1_1 a1_2 a1_3 a1_4 a1_5 a1_6 a1_7 a2 a3_0 a3_1 a4 e0 e1 e2 e3 W w0_0 w0_1 w1_0 w1_1 w1_2 w1_3 w1_4 w1_5 w1_6 w2 w3_0 w3_1 w4 hE).mono fun e W' ⟨he, bel⟩ => ?_
  subst he
  exact ⟨_, rfl, _, _, _, [], _, _, hW', trodAll_mk1 (shut_bool Tryz.underlying4 _), (trodAll_cons_mk (Below.trod laidOut (by kernel_rfl) (of_decide_eq_true (by kernel_rfl)) k0 bel lt0) (trodAll_cons_mk (Below.trod laidOut (by kernel_rfl) (of_decide_eq_true (by kernel_rfl)) k1 bel lt1) (trodAll_cons_mk (Below.trod laidOut (by kernel_rfl) (of_decide_eq_true (by kernel_rfl)) k2 bel lt2) (trodAll_cons_mk (Below.trod laidOut (by kernel_rfl) (of_decide_eq_true (by kernel_rfl)) k3 bel lt3) (trodAll_cons_mk (Below.trod laidOut (by kernel_rfl) (of_decide_eq_true (by kernel_rfl)) k4 bel lt4) trodAll_mk0))))), Below.trodVars laidOut bel (by kernel_rfl) hV, bel.frame _, fun h => by cases h⟩

theorem over : Rows.fnExactTouchedRow.holds Tryz.pinned (OpenSpec.ofChange Rows.fnExactTouchedSpec) :=
  OpenClaim.holds_of_wide 5 Tryz.f5 rfl rfl rfl rfl rfl rfl rfl ⟨rfl, rfl, rfl, rfl, rfl⟩ rfl rfl rfl rfl rfl (by kernel_rfl) Tryz.func5 (by kernel_rfl)
    (of_decide_eq_true (by kernel_rfl)) (by unfold Func.isWrapper; first | (rw [if_pos (by decide +kernel)]; kernel_rfl) | (rw [if_neg (by decide +kernel)]; exact ⟨rfl, rfl⟩))
    (fun os started H enc _ => lifted os started H enc)

/-- ████ THE STATEMENT: THE TIED CARD ████ -/
theorem proved : Rows.FnExactTouchedCardSaid :=
  Claim7.holds_tied_plain_at .later [] [.handle, .sentinel, .sentinel, .sentinel, .sentinel] true (true, "97393dac2ec23c84b8bb3f7fae1a48bf7f9f981fb5e226f00832f8cad736549f") true
    over (fun _ h => by cases h) (by kernel_rfl) (fun _ h => by cases h) fnExactTouched_row_tie rfl ⟨rfl, rfl⟩ (by kernel_rfl) rfl
    (fun f fn hf hfn => by
      obtain rfl : f = 5 := Option.some.inj ((show Tryz.prog.funcNamed "loop.example/g00775/laws.FnExactTouched" = some 5 by kernel_rfl).symm.trans hf) |>.symm
      obtain rfl : fn = Tryz.f5 := (Option.some.inj (Tryz.func5.symm.trans hfn)).symm
      exact ⟨by kernel_rfl, fun j t ht => by
        rw [Tryz.params5] at ht
        have hm : t ∈ [49, 50, 2, 51, 2] := by simpa using Array.mem_of_getElem? ht
        have hall : ([49, 50, 2, 51, 2].all fun u => !Tryz.prog.wantsStandIn u) = true := by kernel_rfl
        exact (show Tryz.prog.wantsStandIn t = false by simpa using List.all_eq_true.1 hall t hm)⟩)
    (by kernel_rfl)
#print axioms proved
end Go.Proofs.YteopplldbcgjjaaGreatDoor.fnExactTouched

/-
At every plan, region, trust and cell the law FnExactScanned returns true and leaves the plan as it was: impl.Scanned answers just what spec.Scanned answers. No condition on the arguments: every plan, of whatever length, and every numbers of type int64. The row lists package-level variables (errors.errorType and the code's four sentinels) with what they hold when the call begins; the card ties that to the program's text, by the given tie (of a pruned copy of the project: the packages that this seat's roots load).
-/
import Derived.Test.YteopplldbcgjjaaGreatDoorS14
import Derived.Test.YteopplldbcgjjaaGreatDoorCards
import Derived.Test.YteopplldbcgjjaaGreatDoorTie
import Derived.OpenVars
import Derived.LaidMore
import Derived.SevenTiedAt
import Derived.Stop.Joined
import Derived.Test.YteopplldbcgjjaaGreatDoorRows
import Derived.WalkKit
import Derived.ProofKit
import Derived.OpenShut
import Derived.ShutString
import Derived.ChangeOld
import Derived.Below
import Derived.Lib.SmallJoins
namespace Go.Proofs.YteopplldbcgjjaaGreatDoor.fnExactScanned
open Go.ChangeShapes Go.WideShapes Go.ChangeAt Go.RowKit
set_option linter.unusedVariables false

theorem own : ownKnob Tryz.prog.godebug = none := by kernel_rfl
theorem laidOut : laidOutB Tryz.prog = true := by kernel_rfl

theorem walk (a0_0 : Int) (a0_1 : Option Addr) (len0_1 cap0_1 : Nat) (z0_1 : List Int) (a1 : Int) (a2_0 : Int) (a2_1 : Int) (a2_2 : Int) (a2_3 : Int) (a2_4 : Int) (a2_5 : Int) (a2_6 : Int) (a2_7 : Bool) (a3_0 : Int) (a3_1 : Int) (e0 e1 e2 e3 : Addr) (w : World) (w0_0 : Mx.I64 a0_0) (w0_1 : Mx.IsRow .i64 w a0_1 len0_1 cap0_1 z0_1) (w1 : Mx.I64 a1) (w2_0 : Mx.I64 a2_0) (w2_1 : Mx.I64 a2_1) (w2_2 : Mx.I64 a2_2) (w2_3 : Mx.I64 a2_3) (w2_4 : Mx.I64 a2_4) (w2_5 : Mx.I64 a2_5) (w2_6 : Mx.I64 a2_6) (w3_0 : Mx.I64 a3_0) (w3_1 : Mx.I64 a3_1) (hE : Mx.Errs w e0 e1 e2 e3) :
    Calls Tryz.prog 6 #[.agg #[.int .i64 a0_0, .slice a0_1 len0_1 cap0_1], .int .i64 a1, .agg #[.int .i64 a2_0, .int .i64 a2_1, .int .i64 a2_2, .int .i64 a2_3, .int .i64 a2_4, .int .i64 a2_5, .int .i64 a2_6, .bool a2_7], .agg #[.int .i64 a3_0, .int .i64 a3_1]] w fun e w' => e = .returned (.bool true) ∧ Below w.heap.size w w' := by
  obtain ⟨l, rfl, hA, hn, hc⟩ := w0_1.list
  exact Mx.scannedLaw_calls e0 e1 e2 e3 a0_0 a1 a3_0 a3_1 a0_1 l cap0_1 a2_0 a2_1 a2_2 a2_3 a2_4 a2_5 a2_6 a2_7 w hn hA w3_0 w3_1 hE

set_option maxRecDepth 100000 in
theorem lifted (os : Os) (started : os.Started) (H : Type) (enc : TypeId × Value → H) :
    ReturnsInHanded {} Tryz.checked os 6 .any (fun w args => (Rows.fnExactScannedSpec.pre enc Tryz.prog Tryz.f6 [] false w args ∧ laidMetH Tryz.prog Mx.Laid5 w) ∧ sizedMet enc Tryz.prog Tryz.f6 (OpenSpec.ofChange Rows.fnExactScannedSpec) false w args) (Rows.fnExactScannedSpec.post enc Tryz.prog Tryz.f6 false true false false) := by
  refine returnsInHanded_of_change_and (C := Tryz.checked) (X := fun w _ => laidMetH Tryz.prog Mx.Laid5 w) (fun _ _ _ hh h => h.of_heap hh) own started (by kernel_rfl) Tryz.func6
    (ChangeSpec.witness_shaped (enc := enc) (C := Tryz.checked) (os := os) (X := fun w _ => laidMetH Tryz.prog Mx.Laid5 w) false (World.doorLaid Tryz.prog 400 os) #[.agg #[.int .i64 0, .slice none 0 0], .int .i64 0, .agg #[.int .i64 0, .int .i64 0, .int .i64 0, .int .i64 0, .int .i64 0, .int .i64 0, .int .i64 0, .bool false], .agg #[.int .i64 0, .int .i64 0]] 8 rfl (World.shaped_of_RefB (by kernel_rfl) (by kernel_rfl)) (by kernel_rfl) (by kernel_rfl) (by kernel_rfl) (Mx.door_met os _)) ?_
  intro W base args ds gs before hval0 hW _ _ hL _
  have hval : ∀ (j : Nat) t v, Tryz.f6.params[j]? = some t → args[j]? = some v → Value.okWide Tryz.prog W .any base t v := hval0
  have hW' := hW
  obtain ⟨p, q, hA0, hV, rfl, hfz, hnd⟩ := hW
  have hA : DataW.TrodAll enc Tryz.prog W 0 (fun _ => true) true Tryz.f6.params.toList args.toList ds p := hA0
  rw [Tryz.params6] at hA hval
  obtain ⟨v0, vs0, d0, ds0, p0, q0, hargs, rfl, rfl, h0, r0⟩ := trodAll_cons hA
  obtain ⟨v1, vs1, d1, ds1, p1, q1, rfl, rfl, rfl, h1, r1⟩ := trodAll_cons r0
  obtain ⟨v2, vs2, d2, ds2, p2, q2, rfl, rfl, rfl, h2, r2⟩ := trodAll_cons r1
  obtain ⟨v3, vs3, d3, ds3, p3, q3, rfl, rfl, rfl, h3, r3⟩ := trodAll_cons r2
  obtain ⟨rfl, rfl, rfl⟩ := trodAll_nil r3
  obtain rfl : args = #[v0, v1, v2, v3] := by cases args; simp_all
  have hVV := hV
  obtain ⟨j0, j1, j2, j3, rfl⟩ := Mx.trodVars_four hVV
  obtain ⟨e0, e1, e2, e3, hE⟩ := Mx.errs_of_laid hL
  have k0 := h0
  have lt0 : ∀ x ∈ p0, x.block < W.heap.size := by obtain ⟨m, hm⟩ := k0; exact DataW.trod_lt m _ _ _ hm
  have k1 := h1
  have lt1 : ∀ x ∈ p1, x.block < W.heap.size := by obtain ⟨m, hm⟩ := k1; exact DataW.trod_lt m _ _ _ hm
  have k2 := h2
  have lt2 : ∀ x ∈ p2, x.block < W.heap.size := by obtain ⟨m, hm⟩ := k2; exact DataW.trod_lt m _ _ _ hm
  have k3 := h3
  have lt3 : ∀ x ∈ p3, x.block < W.heap.size := by obtain ⟨m, hm⟩ := k3; exact DataW.trod_lt m _ _ _ hm
  obtain ⟨x0_0, x0_1, y0_0, y0_1, m0, rfl, rfl, rfl, t0_0, t0_1⟩ := Joins.open_agg2 Tryz.underlying49 (by kernel_rfl) (by kernel_rfl) (hval 0 49 v0 rfl rfl) h0
  obtain ⟨a0_0, rfl, w0_0⟩ := Mx.int_of_trod Tryz.underlying2 t0_0
  obtain ⟨a0_1, len0_1, cap0_1, z0_1, rfl, w0_1⟩ := Mx.row_of_field Tryz.underlying24 Tryz.underlying2 (by kernel_rfl) t0_1
  obtain ⟨a1, rfl, rfl, rfl, w1'⟩ := open_int Tryz.underlying2 (hval 1 2 v1 rfl rfl) h1
  have w1 : Mx.I64 a1 := bounds_i64 w1'
  obtain ⟨cs2, rfl, z2, f2⟩ := Mx.agg_of_trod Tryz.underlying50 (by kernel_rfl) (by kernel_rfl) (hval 2 50 v2 rfl rfl) h2
  obtain ⟨x2_0, m2_0, y2_0, g2_0, t2_0⟩ := f2 0 _ rfl
  obtain ⟨a2_0, rfl, w2_0⟩ := Mx.int_of_trod Tryz.underlying2 t2_0
  obtain ⟨x2_1, m2_1, y2_1, g2_1, t2_1⟩ := f2 1 _ rfl
  obtain ⟨a2_1, rfl, w2_1⟩ := Mx.int_of_trod Tryz.underlying2 t2_1
  obtain ⟨x2_2, m2_2, y2_2, g2_2, t2_2⟩ := f2 2 _ rfl
  obtain ⟨a2_2, rfl, w2_2⟩ := Mx.int_of_trod Tryz.underlying2 t2_2
  obtain ⟨x2_3, m2_3, y2_3, g2_3, t2_3⟩ := f2 3 _ rfl
  obtain ⟨a2_3, rfl, w2_3⟩ := Mx.int_of_trod Tryz.underlying2 t2_3
  obtain ⟨x2_4, m2_4, y2_4, g2_4, t2_4⟩ := f2 4 _ rfl
  obtain ⟨a2_4, rfl, w2_4⟩ := Mx.int_of_trod Tryz.underlying2 t2_4
  obtain ⟨x2_5, m2_5, y2_5, g2_5, t2_5⟩ := f2 5 _ rfl
  obtain ⟨a2_5, rfl, w2_5⟩ := Mx.int_of_trod Tryz.underlying2 t2_5
  obtain ⟨x2_6, m2_6, y2_6, g2_6, t2_6⟩ := f2 6 _ rfl
  obtain ⟨a2_6, rfl, w2_6⟩ := Mx.int_of_trod Tryz.underlying2 t2_6
  obtain ⟨x2_7, m2_7, y2_7, g2_7, t2_7⟩ := f2 7 _ rfl
  obtain ⟨a2_7, rfl⟩ := Mx.bool_of_trod Tryz.underlying4 t2_7
  obtain rfl := Mx.eight z2 g2_0 g2_1 g2_2 g2_3 g2_4 g2_5 g2_6 g2_7
  obtain ⟨x3_0, x3_1, y3_0, y3_1, m3, rfl, rfl, rfl, t3_0, t3_1⟩ := Joins.open_agg2 Tryz.underlying51 (by kernel_rfl) (by kernel_rfl) (hval 3 51 v3 rfl rfl) h3
  obtain ⟨a3_0, rfl, w3_0⟩ := Mx.int_of_trod Tryz.underlying2 t3_0
  obtain ⟨a3_1, rfl, w3_1⟩ := Mx.int_of_trod Tryz.underlying2 t3_1
  clear hA0 hval0
  refine (walk a0_0 a0_1 len0_1 cap0_1 z0_1 a1 a2_0 a2_1 a2_2 a2_3 a2_4 a2_5 a2_6 a2_7 a3_0 a3_1 e0 e1 e2 e3 W w0_0 w0_1 w1 w2_0 w2_1 w2_2 w2_3 w2_4 w2_5 w2_6 w3_0 w3_1 hE).mono fun e W' ⟨he, bel⟩ => ?_
  subst he
  exact ⟨_, rfl, _, _, _, [], _, _, hW', trodAll_mk1 (shut_bool Tryz.underlying4 _), (trodAll_cons_mk (Below.trod laidOut (by kernel_rfl) (of_decide_eq_true (by kernel_rfl)) k0 bel lt0) (trodAll_cons_mk (Below.trod laidOut (by kernel_rfl) (of_decide_eq_true (by kernel_rfl)) k1 bel lt1) (trodAll_cons_mk (Below.trod laidOut (by kernel_rfl) (of_decide_eq_true (by kernel_rfl)) k2 bel lt2) (trodAll_cons_mk (Below.trod laidOut (by kernel_rfl) (of_decide_eq_true (by kernel_rfl)) k3 bel lt3) trodAll_mk0)))), Below.trodVars laidOut bel (by kernel_rfl) hV, bel.frame _, fun h => by cases h⟩

theorem over : Rows.fnExactScannedRow.holds Tryz.pinned (OpenSpec.ofChange Rows.fnExactScannedSpec) :=
  OpenClaim.holds_of_wide 6 Tryz.f6 rfl rfl rfl rfl rfl rfl rfl ⟨rfl, rfl, rfl, rfl, rfl⟩ rfl rfl rfl rfl rfl (by kernel_rfl) Tryz.func6 (by kernel_rfl)
    (of_decide_eq_true (by kernel_rfl)) (by unfold Func.isWrapper; first | (rw [if_pos (by decide +kernel)]; kernel_rfl) | (rw [if_neg (by decide +kernel)]; exact ⟨rfl, rfl⟩))
    (fun os started H enc _ => lifted os started H enc)

/-- ████ THE STATEMENT: THE TIED CARD ████ -/
theorem proved : Rows.FnExactScannedCardSaid :=
  Claim7.holds_tied_plain_at .later [] [.handle, .sentinel, .sentinel, .sentinel, .sentinel] true (true, "97393dac2ec23c84b8bb3f7fae1a48bf7f9f981fb5e226f00832f8cad736549f") true
    over (fun _ h => by cases h) (by kernel_rfl) (fun _ h => by cases h) fnExactScanned_row_tie rfl ⟨rfl, rfl⟩ (by kernel_rfl) rfl
    (fun f fn hf hfn => by
      obtain rfl : f = 6 := Option.some.inj ((show Tryz.prog.funcNamed "loop.example/g00775/laws.FnExactScanned" = some 6 by kernel_rfl).symm.trans hf) |>.symm
      obtain rfl : fn = Tryz.f6 := (Option.some.inj (Tryz.func6.symm.trans hfn)).symm
      exact ⟨by kernel_rfl, fun j t ht => by
        rw [Tryz.params6] at ht
        have hm : t ∈ [49, 2, 50, 51] := by simpa using Array.mem_of_getElem? ht
        have hall : ([49, 2, 50, 51].all fun u => !Tryz.prog.wantsStandIn u) = true := by kernel_rfl
        exact (show Tryz.prog.wantsStandIn t = false by simpa using List.all_eq_true.1 hall t hm)⟩)
    (by kernel_rfl)
#print axioms proved
end Go.Proofs.YteopplldbcgjjaaGreatDoor.fnExactScanned

/-
laws.FnExactVolumeOk answers true for every volume: what the code's VolumeOk answers is what the model's does; no argument is written. The plan's Counts, the Trusts, the Cells, the Slots and each slot's lists may be nil, and of any number. No bound, no condition.
-/
import Derived.Test.YtgaecedhkbneaaaE07
import Derived.Test.YtgaecedhkbneaaaE10
import Derived.Test.YtgaecedhkbneaaaE09
import Derived.Test.YtgaecedhkbneaaaRows
import Derived.WalkKit
import Derived.ProofKit
import Derived.OpenShut
import Derived.ShutString
import Derived.ChangeOld
import Derived.Below
import Derived.Lib.SmallJoins
namespace Go.Proofs.Ytgaecedhkbneaaa.fnExactVolumeOk
open Go.ChangeShapes Go.WideShapes Go.ChangeAt Go.RowKit
set_option linter.unusedVariables false

theorem own : ownKnob Try.prog.godebug = none := by kernel_rfl
theorem laidOut : laidOutB Try.prog = true := by kernel_rfl

theorem walk (a0_0 : Int) (a0_1 : Option Addr) (len0_1 cap0_1 : Nat) (z0_1 : List Int) (a0_2 : Option Addr) (len0_2 cap0_2 : Nat) (z0_2 : List Mx.Tru) (a0_3 : Option Addr) (len0_3 cap0_3 : Nat) (z0_3 : List Mx.Ce) (a0_4 : Option Addr) (len0_4 cap0_4 : Nat) (z0_4 : List Mx.SlN) (a0_5 : Int) (w : World) (w0_0 : Mx.I64 a0_0) (w0_1 : Mx.IsRow .i64 w a0_1 len0_1 cap0_1 z0_1) (w0_2 : Mx.IsTrus w a0_2 len0_2 cap0_2 z0_2) (w0_3 : Mx.IsCels w a0_3 len0_3 cap0_3 z0_3) (w0_4 : Mx.IsSlots w a0_4 len0_4 cap0_4 z0_4) (w0_5 : Mx.I64 a0_5) :
    Calls Try.prog 3 #[.agg #[.int .i64 a0_0, .slice a0_1 len0_1 cap0_1, .slice a0_2 len0_2 cap0_2, .slice a0_3 len0_3 cap0_3, .slice a0_4 len0_4 cap0_4, .int .i64 a0_5]] w fun e w' => e = .returned (.bool true) ∧ Below w.heap.size w w' := by
  obtain ⟨x, hx⟩ := Mx.law_vol (key := a0_0) w0_1 w0_2 w0_3 w0_4 w0_5
  exact Mx.volumeOkLaw_calls Mx.ansVolumeOk x _ w hx

set_option maxRecDepth 100000 in
theorem lifted (os : Os) (started : os.Started) (H : Type) (enc : TypeId × Value → H) :
    ReturnsInHanded {} Try.checked os 3 .any (Rows.fnExactVolumeOkSpec.pre6 enc Try.prog Try.f3 Rows.fnExactVolumeOkRow.domain false) (Rows.fnExactVolumeOkSpec.post enc Try.prog Try.f3 false true false false) := by
  refine returnsInHanded_of_change (C := Try.checked) own started (by kernel_rfl) Try.func3
    (ChangeSpec.witness6 (enc := enc) (C := Try.checked) false ⟨#[], #[.agg #[.int .i64 0, .slice none 0 0, .slice none 0 0, .slice none 0 0, .slice none 0 0, .int .i64 0]], []⟩ 8 (by kernel_rfl) (by kernel_rfl) (by kernel_rfl) (by kernel_rfl)) ?_
  intro W base args ds gs before hval0 hW hcnd _
  have hval : ∀ (j : Nat) t v, Try.f3.params[j]? = some t → args[j]? = some v → Value.okWide Try.prog W .any base t v := hval0
  have hW' := hW
  obtain ⟨p, q, hA0, hV, rfl, hfz, hnd⟩ := hW
  have hA : DataW.TrodAll enc Try.prog W 0 (fun _ => true) true Try.f3.params.toList args.toList ds p := hA0
  rw [Try.params3] at hA hval
  obtain ⟨v0, vs0, d0, ds0, p0, q0, hargs, rfl, rfl, h0, r0⟩ := trodAll_cons hA
  obtain ⟨rfl, rfl, rfl⟩ := trodAll_nil r0
  obtain rfl : args = #[v0] := by cases args; simp_all
  obtain ⟨rfl, rfl⟩ := trodVars_none hV
  have k0 := h0
  have lt0 : ∀ x ∈ p0, x.block < W.heap.size := by obtain ⟨m, hm⟩ := k0; exact DataW.trod_lt m _ _ _ hm
  obtain ⟨a0_0, a0_1, len0_1, cap0_1, z0_1, a0_2, len0_2, cap0_2, z0_2, a0_3, len0_3, cap0_3, z0_3, a0_4, len0_4, cap0_4, z0_4, a0_5, rfl, w0_0, w0_1, w0_2, w0_3, w0_4, w0_5⟩ := Mx.vol_of_trod ⟨_, _, _, _, _, _, _, _, _, _, _, _, _, Try.underlying29, ⟨by kernel_rfl, by kernel_rfl, by kernel_rfl, by kernel_rfl, by kernel_rfl, by kernel_rfl, by kernel_rfl, by kernel_rfl, by kernel_rfl, by kernel_rfl⟩, by kernel_rfl, Try.underlying24, ⟨by kernel_rfl, by kernel_rfl, by kernel_rfl, by kernel_rfl⟩, Try.underlying2, ⟨Try.underlying22, Try.underlying2, by kernel_rfl⟩, Try.underlying2, ⟨Try.underlying25, Try.underlying79, by kernel_rfl, by kernel_rfl, by kernel_rfl⟩, ⟨Try.underlying26, Try.underlying81, by kernel_rfl, by kernel_rfl, by kernel_rfl⟩, ⟨Try.underlying27, ⟨_, _, _, _, _, _, _, _, _, Try.underlying68, ⟨by kernel_rfl, by kernel_rfl, by kernel_rfl, by kernel_rfl⟩, by kernel_rfl, Try.underlying66, ⟨by kernel_rfl, by kernel_rfl, by kernel_rfl, by kernel_rfl, by kernel_rfl, by kernel_rfl⟩, Try.underlying2, Try.underlying2, ⟨Try.underlying25, Try.underlying79, by kernel_rfl, by kernel_rfl, by kernel_rfl⟩, ⟨Try.underlying26, Try.underlying81, by kernel_rfl, by kernel_rfl, by kernel_rfl⟩⟩⟩⟩ (hval 0 29 v0 rfl rfl) h0
  clear hA0 hval0
  refine (walk a0_0 a0_1 len0_1 cap0_1 z0_1 a0_2 len0_2 cap0_2 z0_2 a0_3 len0_3 cap0_3 z0_3 a0_4 len0_4 cap0_4 z0_4 a0_5 W w0_0 w0_1 w0_2 w0_3 w0_4 w0_5).mono fun e W' ⟨he, bel⟩ => ?_
  subst he
  exact ⟨_, rfl, _, _, _, [], _, [], hW', trodAll_mk1 (shut_bool Try.underlying4 _), (trodAll_cons_mk (Below.trod laidOut (by kernel_rfl) (of_decide_eq_true (by kernel_rfl)) k0 bel lt0) trodAll_mk0), rfl, bel.frame _, fun h => by cases h⟩

theorem over : Rows.fnExactVolumeOkRow.holds Try.pinned (OpenSpec.ofChange Rows.fnExactVolumeOkSpec) :=
  OpenClaim.holds_of_wide 3 Try.f3 rfl rfl rfl rfl rfl rfl rfl ⟨rfl, rfl, rfl, rfl, rfl⟩ rfl rfl rfl rfl rfl (by kernel_rfl) Try.func3 (by kernel_rfl)
    (of_decide_eq_true (by kernel_rfl)) (by unfold Func.isWrapper; first | (rw [if_pos (by decide +kernel)]; kernel_rfl) | (rw [if_neg (by decide +kernel)]; exact ⟨rfl, rfl⟩))
    (fun os started H enc _ => lifted os started H enc)

/-- ████ THE STATEMENT ████ -/
theorem proved : Rows.FnExactVolumeOkSaid := over
#print axioms proved
end Go.Proofs.Ytgaecedhkbneaaa.fnExactVolumeOk

/-
laws.FnExactSavedTo answers true at every argument: what the code's SavedTo answers is what the model's does, field for field; no argument is written; the volume that is answered is memory of the call's own: marking what came in, and marking the answer, changes neither the answer nor what the next call answers. The lists may be nil and of any number. No bound, no condition.
-/
import Derived.Test.YteoijmejhdocdaaGreatDoorG27
import Derived.Test.YteoijmejhdocdaaGreatDoorG30
import Derived.Test.YteoijmejhdocdaaGreatDoorG29
import Derived.Test.YteoijmejhdocdaaGreatDoorCards
import Derived.Test.YteoijmejhdocdaaGreatDoorTie
import Derived.OpenVars
import Derived.LaidMore
import Derived.SevenTiedAt
import Derived.Stop.Joined
import Derived.Test.YteoijmejhdocdaaGreatDoorRows
import Derived.WalkKit
import Derived.ProofKit
import Derived.OpenShut
import Derived.ShutString
import Derived.ChangeOld
import Derived.Below
import Derived.Lib.SmallJoins
namespace Go.Proofs.YteoijmejhdocdaaGreatDoor.fnExactSavedTo
open Go.ChangeShapes Go.WideShapes Go.ChangeAt Go.RowKit
set_option linter.unusedVariables false

theorem own : ownKnob Tryz.prog.godebug = none := by kernel_rfl
theorem laidOut : laidOutB Tryz.prog = true := by kernel_rfl

theorem walk (a0_0 : Int) (a0_1 : Option Addr) (len0_1 cap0_1 : Nat) (z0_1 : List Int) (a0_2 : Option Addr) (len0_2 cap0_2 : Nat) (z0_2 : List Mx.Tru) (a0_3 : Option Addr) (len0_3 cap0_3 : Nat) (z0_3 : List Mx.Ce) (a0_4 : Option Addr) (len0_4 cap0_4 : Nat) (z0_4 : List Mx.SlN) (a0_5 : Int) (a1 : Int) (e0 : Addr) (w : World) (w0_0 : Mx.I64 a0_0) (w0_1 : Mx.IsRow .i64 w a0_1 len0_1 cap0_1 z0_1) (w0_2 : Mx.IsTrus w a0_2 len0_2 cap0_2 z0_2) (w0_3 : Mx.IsCels w a0_3 len0_3 cap0_3 z0_3) (w0_4 : Mx.IsSlots w a0_4 len0_4 cap0_4 z0_4) (w0_5 : Mx.I64 a0_5) (w1 : Mx.I64 a1) (hE : Mx.Bad1 w e0) :
    Calls Tryz.prog 5 #[.agg #[.int .i64 a0_0, .slice a0_1 len0_1 cap0_1, .slice a0_2 len0_2 cap0_2, .slice a0_3 len0_3 cap0_3, .slice a0_4 len0_4 cap0_4, .int .i64 a0_5], .int .i64 a1] w fun e w' => e = .returned (.bool true) ∧ Below w.heap.size w w' := by
  obtain ⟨x, hx⟩ := Mx.law_vol (key := a0_0) w0_1 w0_2 w0_3 w0_4 w0_5
  exact Mx.savedToLaw_calls (fun u => Mx.Bad1 u e0) (Mx.ansSavedTo e0) x _ a1 w (fun u hb => hE.below hb) hx

set_option maxRecDepth 100000 in
theorem lifted (os : Os) (started : os.Started) (H : Type) (enc : TypeId × Value → H) :
    ReturnsInHanded {} Tryz.checked os 5 .any (fun w args => (Rows.fnExactSavedToSpec.pre enc Tryz.prog Tryz.f5 [] false w args ∧ laidMetH Tryz.prog Mx.Laid1 w) ∧ sizedMet enc Tryz.prog Tryz.f5 (OpenSpec.ofChange Rows.fnExactSavedToSpec) false w args) (Rows.fnExactSavedToSpec.post enc Tryz.prog Tryz.f5 false true false false) := by
  refine returnsInHanded_of_change_and (C := Tryz.checked) (X := fun w _ => laidMetH Tryz.prog Mx.Laid1 w) (fun _ _ _ hh h => h.of_heap hh) own started (by kernel_rfl) Tryz.func5
    (ChangeSpec.witness_shaped (enc := enc) (C := Tryz.checked) (os := os) (X := fun w _ => laidMetH Tryz.prog Mx.Laid1 w) false (World.doorLaid Tryz.prog 400 os) #[.agg #[.int .i64 0, .slice none 0 0, .slice none 0 0, .slice none 0 0, .slice none 0 0, .int .i64 0], .int .i64 0] 8 rfl (World.shaped_of_RefB (by kernel_rfl) (by kernel_rfl)) (by kernel_rfl) (by kernel_rfl) (by kernel_rfl) (Mx.door_met1 os _)) ?_
  intro W base args ds gs before hval0 hW _ _ hL _
  have hval : ∀ (j : Nat) t v, Tryz.f5.params[j]? = some t → args[j]? = some v → Value.okWide Tryz.prog W .any base t v := hval0
  have hW' := hW
  obtain ⟨p, q, hA0, hV, rfl, hfz, hnd⟩ := hW
  have hA : DataW.TrodAll enc Tryz.prog W 0 (fun _ => true) true Tryz.f5.params.toList args.toList ds p := hA0
  rw [Tryz.params5] at hA hval
  obtain ⟨v0, vs0, d0, ds0, p0, q0, hargs, rfl, rfl, h0, r0⟩ := trodAll_cons hA
  obtain ⟨v1, vs1, d1, ds1, p1, q1, rfl, rfl, rfl, h1, r1⟩ := trodAll_cons r0
  obtain ⟨rfl, rfl, rfl⟩ := trodAll_nil r1
  obtain rfl : args = #[v0, v1] := by cases args; simp_all
  have hVV := hV
  obtain ⟨j0, rfl⟩ := Mx.trodVars_one hVV
  obtain ⟨e0, hE⟩ := Mx.bad_of_laid hL
  have k0 := h0
  have lt0 : ∀ x ∈ p0, x.block < W.heap.size := by obtain ⟨m, hm⟩ := k0; exact DataW.trod_lt m _ _ _ hm
  have k1 := h1
  have lt1 : ∀ x ∈ p1, x.block < W.heap.size := by obtain ⟨m, hm⟩ := k1; exact DataW.trod_lt m _ _ _ hm
  obtain ⟨a0_0, a0_1, len0_1, cap0_1, z0_1, a0_2, len0_2, cap0_2, z0_2, a0_3, len0_3, cap0_3, z0_3, a0_4, len0_4, cap0_4, z0_4, a0_5, rfl, w0_0, w0_1, w0_2, w0_3, w0_4, w0_5⟩ := Mx.vol_of_trod ⟨_, _, _, _, _, _, _, _, _, _, _, _, _, Tryz.underlying64, ⟨by kernel_rfl, by kernel_rfl, by kernel_rfl, by kernel_rfl, by kernel_rfl, by kernel_rfl, by kernel_rfl, by kernel_rfl, by kernel_rfl, by kernel_rfl⟩, by kernel_rfl, Tryz.underlying59, ⟨by kernel_rfl, by kernel_rfl, by kernel_rfl, by kernel_rfl⟩, Tryz.underlying2, ⟨Tryz.underlying24, Tryz.underlying2, by kernel_rfl⟩, Tryz.underlying2, ⟨Tryz.underlying60, Tryz.underlying182, by kernel_rfl, by kernel_rfl, by kernel_rfl⟩, ⟨Tryz.underlying61, Tryz.underlying184, by kernel_rfl, by kernel_rfl, by kernel_rfl⟩, ⟨Tryz.underlying62, ⟨_, _, _, _, _, _, _, _, _, Tryz.underlying180, ⟨by kernel_rfl, by kernel_rfl, by kernel_rfl, by kernel_rfl⟩, by kernel_rfl, Tryz.underlying178, ⟨by kernel_rfl, by kernel_rfl, by kernel_rfl, by kernel_rfl, by kernel_rfl, by kernel_rfl⟩, Tryz.underlying2, Tryz.underlying2, ⟨Tryz.underlying60, Tryz.underlying182, by kernel_rfl, by kernel_rfl, by kernel_rfl⟩, ⟨Tryz.underlying61, Tryz.underlying184, by kernel_rfl, by kernel_rfl, by kernel_rfl⟩⟩⟩⟩ (hval 0 64 v0 rfl rfl) h0
  obtain ⟨a1, rfl, rfl, rfl, w1'⟩ := open_int Tryz.underlying2 (hval 1 2 v1 rfl rfl) h1
  have w1 : Mx.I64 a1 := bounds_i64 w1'
  clear hA0 hval0
  refine (walk a0_0 a0_1 len0_1 cap0_1 z0_1 a0_2 len0_2 cap0_2 z0_2 a0_3 len0_3 cap0_3 z0_3 a0_4 len0_4 cap0_4 z0_4 a0_5 a1 e0 W w0_0 w0_1 w0_2 w0_3 w0_4 w0_5 w1 hE).mono fun e W' ⟨he, bel⟩ => ?_
  subst he
  exact ⟨_, rfl, _, _, _, [], _, _, hW', trodAll_mk1 (shut_bool Tryz.underlying4 _), (trodAll_cons_mk (Below.trod laidOut (by kernel_rfl) (of_decide_eq_true (by kernel_rfl)) k0 bel lt0) (trodAll_cons_mk (Below.trod laidOut (by kernel_rfl) (of_decide_eq_true (by kernel_rfl)) k1 bel lt1) trodAll_mk0)), Below.trodVars laidOut bel (by kernel_rfl) hV, bel.frame _, fun h => by cases h⟩

theorem over : Rows.fnExactSavedToRow.holds Tryz.pinned (OpenSpec.ofChange Rows.fnExactSavedToSpec) :=
  OpenClaim.holds_of_wide 5 Tryz.f5 rfl rfl rfl rfl rfl rfl rfl ⟨rfl, rfl, rfl, rfl, rfl⟩ rfl rfl rfl rfl rfl (by kernel_rfl) Tryz.func5 (by kernel_rfl)
    (of_decide_eq_true (by kernel_rfl)) (by unfold Func.isWrapper; first | (rw [if_pos (by decide +kernel)]; kernel_rfl) | (rw [if_neg (by decide +kernel)]; exact ⟨rfl, rfl⟩))
    (fun os started H enc _ => lifted os started H enc)

/-- ████ THE STATEMENT: THE TIED CARD ████ -/
theorem proved : Rows.FnExactSavedToCardSaid :=
  Claim7.holds_tied_plain_at .later [] [.sentinel] true (true, "b1b0be842b10664774bbeb9c76d3ca796181b98abda70ce0fb57f1a72cd79374") true
    over (fun _ h => by cases h) (by kernel_rfl) (fun _ h => by cases h) fnExactSavedTo_row_tie rfl ⟨rfl, rfl⟩ (by kernel_rfl) rfl
    (fun f fn hf hfn => by
      obtain rfl : f = 5 := Option.some.inj ((show Tryz.prog.funcNamed "loop.example/g00775/laws.FnExactSavedTo" = some 5 by kernel_rfl).symm.trans hf) |>.symm
      obtain rfl : fn = Tryz.f5 := (Option.some.inj (Tryz.func5.symm.trans hfn)).symm
      exact ⟨by kernel_rfl, fun j t ht => by
        rw [Tryz.params5] at ht
        have hm : t ∈ [64, 2] := by simpa using Array.mem_of_getElem? ht
        have hall : ([64, 2].all fun u => !Tryz.prog.wantsStandIn u) = true := by kernel_rfl
        exact (show Tryz.prog.wantsStandIn t = false by simpa using List.all_eq_true.1 hall t hm)⟩)
    (by kernel_rfl)
#print axioms proved
end Go.Proofs.YteoijmejhdocdaaGreatDoor.fnExactSavedTo

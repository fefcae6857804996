/- THE WALK OF laws.FnExactBehind, GIVEN WHAT THE CODE'S Behind ANSWERS. -/
import Derived.Test.YtkpplholooefkaaTrustL
import Derived.Test.YtkpplholooefkaaBehindS
namespace Go.Proofs.Ytkpplholooefkaa.Mx
open Go.ChangeShapes Go.WideShapes Go.ChangeAt Go.RowKit
set_option linter.unusedVariables false

/-- What the code's Behind answers, at every argument: to be shown of the code that landed. -/
def AnsBehind : Prop := ∀ (key x : Int) (A : Option Addr) (l : List Int) (t0 t1 t2 t3 t4 t5 t6 : Int) (t7 : Bool) (w : World), l.length ≤ 1048576 → Ints w .i64 w.heap.size A l → I64 key → I64 x → (I64 t0 ∧ I64 t1 ∧ I64 t2 ∧ I64 t3 ∧ I64 t4 ∧ I64 t5 ∧ I64 t6) →
  Calls Try.prog 20 #[.agg #[.int .i64 key, .slice A l.length l.length], .agg #[.int .i64 t0, .int .i64 t1, .int .i64 t2, .int .i64 t3, .int .i64 t4, .int .i64 t5, .int .i64 t6, .bool t7], .int .i64 x] w fun e w' => e = .returned (.bool (behindB key l t2 x)) ∧ Below w.heap.size w w'

set_option maxRecDepth 20000 in
set_option maxHeartbeats 4000000 in
theorem behindLaw_calls (H : AnsBehind) (key x : Int) (A : Option Addr) (l : List Int) (cap : Nat) (t0 t1 t2 t3 t4 t5 t6 : Int) (t7 : Bool) (w : World) (hn : l.length ≤ maxLen) (hA : Ints w .i64 w.heap.size A l) (hk : I64 key) (hx : I64 x) (ht : I64 t0 ∧ I64 t1 ∧ I64 t2 ∧ I64 t3 ∧ I64 t4 ∧ I64 t5 ∧ I64 t6) :
    Calls Try.prog 5 #[.agg #[.int .i64 key, .slice A l.length cap], .agg #[.int .i64 t0, .int .i64 t1, .int .i64 t2, .int .i64 t3, .int .i64 t4, .int .i64 t5, .int .i64 t6, .bool t7], .int .i64 x] w fun e w' => e = .returned (.bool true) ∧ Below w.heap.size w w' := by
  have k0 := ((Kept.refl w).new 24 #[.int .i64 key, .slice A l.length cap]).new 26 #[.int .i64 t0, .int .i64 t1, .int .i64 t2, .int .i64 t3, .int .i64 t4, .int .i64 t5, .int .i64 t6, .bool t7]
  rw [show (w.alloc (.cells #[.int .i64 key, .slice A l.length cap] 24)).heap.size = w.heap.size + 1 by simp] at k0
  have B0 := Lib.hid k0.1
  have c0 := k0.tail.cell (List.mem_cons_self ..) 0
  have c1 := k0.tail.cell (List.mem_cons_self ..) 1
  simp only [List.getElem?_toArray, List.getElem?_cons_zero, List.getElem?_cons_succ] at c0 c1
  have KP := Lib.hid (show PT w w.heap.size (w.heap.size + 1) #[.int .i64 key, .slice A l.length cap] #[.int .i64 t0, .int .i64 t1, .int .i64 t2, .int .i64 t3, .int .i64 t4, .int .i64 t5, .int .i64 t6, .bool t7] ((w.alloc (.cells #[.int .i64 key, .slice A l.length cap] 24)).alloc (.cells #[.int .i64 t0, .int .i64 t1, .int .i64 t2, .int .i64 t3, .int .i64 t4, .int .i64 t5, .int .i64 t6, .bool t7] 26)) from ⟨k0.1, k0.at_ (by simp), k0.at_ (by simp)⟩)
  clear k0
  by_cases hs : 1048576 < l.length
  · have S := Lib.hid (fun w => szPlan_no key A l.length cap w hn hs)
    clear hA hs hk hx ht H
    go_enter Try.func5, Try.ntmps5
    go_wp2_with fail
    refine (S.out _).mono ?_; rintro e w1 ⟨rfl, b1⟩
    have B1 := Lib.hid (B0.out.trans (b1.mono B0.out.size))
    clear b1
    go_wp2_with fail
    go_ret
    exact ⟨rfl, B1.out⟩
  · have hs' : l.length ≤ 1048576 := by omega
    have S := Lib.hid (fun w => szPlan_yes key A l.length cap w hs')
    have HA := Lib.hid hA
    have T := Lib.hid (fun v hb => toPlan_calls key A l cap v hs' ((HA.out.below (show Below w.heap.size w v from hb) (Nat.le_refl _)).more hb.size))
    have U := Lib.hid (fun w => toTrust_calls t0 t1 t2 t3 t4 t5 t6 t7 w)
    have C := Lib.hid (fun D w hD => H key x D l t0 t1 t2 t3 t4 t5 t6 t7 w hs' hD hk hx ht)
    have D := Lib.hid (fun D w hD => specBehind_calls key x D l l.length t0 t1 t2 t3 t4 t5 t6 t7 w hn (Nat.le_refl _) hD hx)
    have Q := Lib.hid (fun A C w hA hC => eqPlan_same key A C l l.length l.length w hs' hA hC)
    have hg : ¬ (1048576 : Int) - l.length < 0 := by omega
    generalize behindB key l t2 x = z at C D
    clear hA hs hk hx ht H
    go_enter Try.func5, Try.ntmps5
    go_wp2_with fail
    refine (S.out _).mono ?_; rintro e w1 ⟨rfl, b1⟩
    have P1 := Lib.hid (show PT w w.heap.size (w.heap.size + 1) #[.int .i64 key, .slice A l.length cap] #[.int .i64 t0, .int .i64 t1, .int .i64 t2, .int .i64 t3, .int .i64 t4, .int .i64 t5, .int .i64 t6, .bool t7] w1.drew from ⟨(KP.out.1.trans (b1.mono KP.out.1.size)).drew, (KP.out.2.1.below b1 KP.out.2.1.lt).drew, (KP.out.2.2.below b1 KP.out.2.2.lt).drew⟩)
    clear b1 S c0 c1
    go_wp2_with fail
    go_region_held3 (fun w' => (w'.cell? ⟨w.heap.size, 0, none⟩ = some (.int .i64 key) ∧ w'.cell? ⟨w.heap.size, 1, none⟩ = some (.slice A l.length cap) ∧ w'.cell? ⟨(w.heap.size + 1), 0, none⟩ = some (.int .i64 t0) ∧ w'.cell? ⟨(w.heap.size + 1), 1, none⟩ = some (.int .i64 t1) ∧ w'.cell? ⟨(w.heap.size + 1), 2, none⟩ = some (.int .i64 t2) ∧ w'.cell? ⟨(w.heap.size + 1), 3, none⟩ = some (.int .i64 t3) ∧ w'.cell? ⟨(w.heap.size + 1), 4, none⟩ = some (.int .i64 t4) ∧ w'.cell? ⟨(w.heap.size + 1), 5, none⟩ = some (.int .i64 t5) ∧ w'.cell? ⟨(w.heap.size + 1), 6, none⟩ = some (.int .i64 t6) ∧ w'.cell? ⟨(w.heap.size + 1), 7, none⟩ = some (.bool t7)) ∧ PT w w.heap.size (w.heap.size + 1) #[.int .i64 key, .slice A l.length cap] #[.int .i64 t0, .int .i64 t1, .int .i64 t2, .int .i64 t3, .int .i64 t4, .int .i64 t5, .int .i64 t6, .bool t7] w')
      (first | exact PT.keep ‹Below _ _ _› ‹_› | exact PT.cells P1.out)
      (first
        | (go_at_call 8; refine (T.out _ (And.right ‹_ ∧ PT _ _ _ _ _ _›).1).mono ?_; rintro e wx ⟨G, rfl, hG, bx⟩; have HG := Lib.hid hG; clear hG)
        | (go_at_call 9; refine (U.out _).mono ?_; rintro e wx ⟨rfl, bx⟩; have BU := Lib.hid bx)
        | (go_at_call 19; first | (refine (D.out _ _ HG.out).mono ?_; rintro e wx ⟨rfl, bx⟩) | (refine (D.out _ _ ((HG.out.below BU.out (Nat.le_refl _)).more BU.out.size)).mono ?_; rintro e wx ⟨rfl, bx⟩)))
    all_goals
      obtain ⟨⟨c0, c1, -⟩, TT⟩ := ‹_ ∧ PT _ _ _ _ _ _›
      have P2 := Lib.hid TT
      clear TT P1 D
      go_wp2_with fail
      refine (T.out _ P2.out.1).mono ?_; rintro e w6 ⟨G6, rfl, h6, b6⟩
      have P6 := Lib.hid (show PTC w w.heap.size (w.heap.size + 1) w6.heap.size #[.int .i64 key, .slice A l.length cap] #[.int .i64 t0, .int .i64 t1, .int .i64 t2, .int .i64 t3, .int .i64 t4, .int .i64 t5, .int .i64 t6, .bool t7] #[.int .i64 key, .slice G6 l.length l.length] G6 l (w6.alloc (.cells #[.int .i64 key, .slice G6 l.length l.length] 29)).drew from
        ⟨⟨((P2.out.1.trans (b6.mono P2.out.1.size)).alloc (Nat.le_trans P2.out.1.size b6.size) _).drew, (CellsAt.grown (P2.out.2.1.below b6 P2.out.2.1.lt) (World.grownBy_alloc w6 _ none) (by simp)).drew, (CellsAt.grown (P2.out.2.2.below b6 P2.out.2.2.lt) (World.grownBy_alloc w6 _ none) (by simp)).drew⟩, (CellsAt.new w6 _ _).drew, h6.boxed _⟩)
      clear h6 b6 P2 c0 c1
      go_wp2_with fail
      go_region_held3 (fun w' => (w'.cell? ⟨w.heap.size, 0, none⟩ = some (.int .i64 key) ∧ w'.cell? ⟨w.heap.size, 1, none⟩ = some (.slice A l.length cap) ∧ w'.cell? ⟨(w.heap.size + 1), 0, none⟩ = some (.int .i64 t0) ∧ w'.cell? ⟨(w.heap.size + 1), 1, none⟩ = some (.int .i64 t1) ∧ w'.cell? ⟨(w.heap.size + 1), 2, none⟩ = some (.int .i64 t2) ∧ w'.cell? ⟨(w.heap.size + 1), 3, none⟩ = some (.int .i64 t3) ∧ w'.cell? ⟨(w.heap.size + 1), 4, none⟩ = some (.int .i64 t4) ∧ w'.cell? ⟨(w.heap.size + 1), 5, none⟩ = some (.int .i64 t5) ∧ w'.cell? ⟨(w.heap.size + 1), 6, none⟩ = some (.int .i64 t6) ∧ w'.cell? ⟨(w.heap.size + 1), 7, none⟩ = some (.bool t7) ∧ w'.cell? ⟨w6.heap.size, 0, none⟩ = some (.int .i64 key) ∧ w'.cell? ⟨w6.heap.size, 1, none⟩ = some (.slice G6 l.length l.length)) ∧ PTC w w.heap.size (w.heap.size + 1) w6.heap.size #[.int .i64 key, .slice A l.length cap] #[.int .i64 t0, .int .i64 t1, .int .i64 t2, .int .i64 t3, .int .i64 t4, .int .i64 t5, .int .i64 t6, .bool t7] #[.int .i64 key, .slice G6 l.length l.length] G6 l w')
        (first | exact PTC.keep ‹Below _ _ _› ‹_› | exact PTC.cells P6.out)
        (first
          | (go_at_call 9; refine (U.out _).mono ?_; rintro e wy ⟨rfl, by_⟩)
          | (go_at_call 20; refine (C.out _ _ (And.right ‹_ ∧ PTC _ _ _ _ _ _ _ _ _ _›).2.2).mono ?_; rintro e wy ⟨rfl, by_⟩))
      all_goals
        obtain ⟨-, TY⟩ := ‹_ ∧ PTC _ _ _ _ _ _ _ _ _ _›
        have P7 := Lib.hid (show PTC w w.heap.size (w.heap.size + 1) w6.heap.size #[.int .i64 key, .slice A l.length cap] #[.int .i64 t0, .int .i64 t1, .int .i64 t2, .int .i64 t3, .int .i64 t4, .int .i64 t5, .int .i64 t6, .bool t7] #[.int .i64 key, .slice G6 l.length l.length] G6 l wy.drew from ⟨⟨TY.1.1.drew, TY.1.2.1.drew, TY.1.2.2.drew⟩, TY.2.1.drew, TY.2.2⟩)
        clear TY P6 C U
        go_wp2_with fail
        go_region_held3 (fun w' => (w'.cell? ⟨w.heap.size, 0, none⟩ = some (.int .i64 key) ∧ w'.cell? ⟨w.heap.size, 1, none⟩ = some (.slice A l.length cap) ∧ w'.cell? ⟨(w.heap.size + 1), 0, none⟩ = some (.int .i64 t0) ∧ w'.cell? ⟨(w.heap.size + 1), 1, none⟩ = some (.int .i64 t1) ∧ w'.cell? ⟨(w.heap.size + 1), 2, none⟩ = some (.int .i64 t2) ∧ w'.cell? ⟨(w.heap.size + 1), 3, none⟩ = some (.int .i64 t3) ∧ w'.cell? ⟨(w.heap.size + 1), 4, none⟩ = some (.int .i64 t4) ∧ w'.cell? ⟨(w.heap.size + 1), 5, none⟩ = some (.int .i64 t5) ∧ w'.cell? ⟨(w.heap.size + 1), 6, none⟩ = some (.int .i64 t6) ∧ w'.cell? ⟨(w.heap.size + 1), 7, none⟩ = some (.bool t7) ∧ w'.cell? ⟨w6.heap.size, 0, none⟩ = some (.int .i64 key) ∧ w'.cell? ⟨w6.heap.size, 1, none⟩ = some (.slice G6 l.length l.length)) ∧ PTC w w.heap.size (w.heap.size + 1) w6.heap.size #[.int .i64 key, .slice A l.length cap] #[.int .i64 t0, .int .i64 t1, .int .i64 t2, .int .i64 t3, .int .i64 t4, .int .i64 t5, .int .i64 t6, .bool t7] #[.int .i64 key, .slice G6 l.length l.length] G6 l w')
          (first | exact PTC.keep ‹Below _ _ _› ‹_› | exact PTC.cells P7.out)
          (first
            | (go_at_call 8; refine (T.out _ (And.right ‹_ ∧ PTC _ _ _ _ _ _ _ _ _ _›).1.1).mono ?_; rintro e wz ⟨G, rfl, hG, bz⟩; have HG := Lib.hid hG; clear hG)
            | (go_at_call 11; refine (Q.out _ _ _ (And.right ‹_ ∧ PTC _ _ _ _ _ _ _ _ _ _›).2.2 HG.out).mono ?_; rintro e wz ⟨rfl, bz⟩))
        all_goals
          obtain ⟨-, TZ⟩ := ‹_ ∧ PTC _ _ _ _ _ _ _ _ _ _›
          have BZ := Lib.hid TZ.1.1
          clear TZ P7 Q T
          go_wp2_with fail
          go_ret
          exact ⟨rfl, BZ.out⟩
end Go.Proofs.Ytkpplholooefkaa.Mx

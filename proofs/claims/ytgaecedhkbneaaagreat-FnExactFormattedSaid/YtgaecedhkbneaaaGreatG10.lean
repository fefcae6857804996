import Derived.Test.YtgaecedhkbneaaaGreatG09
import Derived.Test.YtgaecedhkbneaaaGreatG04
import Derived.Test.YtgaecedhkbneaaaGreatG06
import Derived.Deep.AppendLies
import Derived.Deep.RegionHeld3
import Derived.Test.YtgaecedhkbneaaaGreatG03
namespace Go.Proofs.YtgaecedhkbneaaaGreat.Mx
open Go.ChangeShapes Go.WideShapes Go.ChangeAt Go.RowKit
set_option linter.unusedVariables false
def FmtC (b w0 : World) (L : List Box) (T : List Tru) (M : List Ce) (cn mc : Int) (p : Nat) (PT : TypeId) (old : Array Value) (V : Value → Array Value) (D : Nat → Bool) (γ : Nat → Value) (u : World) : Prop :=
  Kept b L u ∧ w0.grownBy u (some p) ∧ (D 12 = false → CellsAt u p PT old) ∧ (D 12 = true → CellsAt u p PT (V (γ 10))) ∧
  (D 4 = true → ∃ A c, γ 4 = .agg #[.int .i64 cn, .slice A T.length c, .int .i64 mc] ∧ TrRow u w0.heap.size (.slice A T.length c) T) ∧
  (D 5 = true → D 8 = false → ClRow u w0.heap.size (γ 5) []) ∧ (D 8 = true → ClRow u w0.heap.size (γ 8) M) ∧
  (D 4 = true → D 5 = true → D 8 = false → Sep (blkOf (agg1 (γ 4))) (blkOf (γ 5))) ∧ (D 4 = true → D 8 = true → Sep (blkOf (agg1 (γ 4))) (blkOf (γ 8))) ∧
  (D 10 = true → ∃ g, γ 10 = .slice (some ⟨g, 0, none⟩) 2 2 ∧ w0.heap.size ≤ g ∧ CellsAt u g 49 #[.int .i64 0, .slice none 0 0, .int .i64 0, .slice none 0 0, .int .i64 cn, agg1 (γ 4), .int .i64 mc, γ 8] ∧ g ∉ blkOf (agg1 (γ 4)) ∧ g ∉ blkOf (γ 8)) ∧
  (D 8 = true → D 5 = true) ∧ (D 10 = true → D 9 = true) ∧ (D 12 = true → D 10 = true) ∧ (D 9 = true → D 4 = true ∧ D 8 = true) ∧ (D 9 = true → γ 9 = .agg #[.int .i64 cn, agg1 (γ 4), .int .i64 mc, γ 8])
section
variable {b w0 u v : World} {p : Nat} {L : List Box} {T : List Tru} {M : List Ce} {cn mc : Int} {PT : TypeId} {old : Array Value} {V : Value → Array Value} {D : Nat → Bool} {γ γ' : Nat → Value}
theorem FmtC.loc (ha : ∀ i, D i = true → γ i = γ' i) (h : FmtC b w0 L T M cn mc p PT old V D γ u) : FmtC b w0 L T M cn mc p PT old V D γ' u := by
  obtain ⟨h1, h2, h3, h4, h5, h6, h7, h8, h9, h10, h11, h12_, h13, h14, h15⟩ := h
  have h12 := fun e => h14 (h12_ e)
  refine ⟨h1, h2, h3, fun e => ?_, fun e => ?_, fun e e' => ?_, fun e => ?_, fun e e' e'' => ?_, fun e e' => ?_, fun e => ?_, h11, h12_, h13, h14, fun e => ?_⟩
  · rw [← ha 10 (h13 e)]; exact h4 e
  · rw [← ha 4 e]; exact h5 e
  · rw [← ha 5 e]; exact h6 e e'
  · rw [← ha 8 e]; exact h7 e
  · rw [← ha 4 e, ← ha 5 e']; exact h8 e e' e''
  · rw [← ha 4 e, ← ha 8 e']; exact h9 e e'
  · rw [← ha 10 e, ← ha 4 (h12 e).1, ← ha 8 (h12 e).2]; exact h10 e
  · rw [← ha 9 e, ← ha 4 (h14 e).1, ← ha 8 (h14 e).2]; exact h15 e
theorem FmtC.start (h : Kept b L u) (hc : CellsAt u p PT old) : FmtC b u L T M cn mc p PT old V (fun _ => false) γ u.drew :=
  ⟨h.drew, gb_drew (gb_refl u (some p)), fun _ => hc, fun e => by (cases e), fun e => by (cases e), fun e => by (cases e), fun e => by (cases e), fun e => by (cases e), fun e => by (cases e), fun e => by (cases e), fun e => by (cases e), fun e => by (cases e), fun e => by (cases e), fun e => by (cases e), fun e => by (cases e)⟩
theorem FmtC.sealed (h : FmtC b w0 L T M cn mc p PT old V D γ u) (hD : D 4 = false) (hp : p < w0.heap.size) (hb : Below u.heap.size u v) {A : Option Addr} {c : Nat} (hr : TrRow v u.heap.size (.slice A T.length c) T) :
    FmtC b w0 L T M cn mc p PT old V (setD D 4) (setG γ 4 (.agg #[.int .i64 cn, .slice A T.length c, .int .i64 mc])) v := by
  obtain ⟨h1, h2, h3, h4, h5, h6, h7, h8, h9, h10, h11, h12_, h13, h14, h15⟩ := h
  have h12 := fun e => h14 (h12_ e)
  have d10 : D 10 = false := by cases e : D 10 with | false => rfl | true => rw [(h12 e).1] at hD; cases hD
  have d12 : D 12 = false := by cases e : D 12 with | false => rfl | true => rw [h13 e] at d10; cases d10
  have hpu : p < u.heap.size := Nat.lt_of_lt_of_le hp h2.size
  have ag : agg1 (.agg #[.int .i64 cn, .slice A T.length c, .int .i64 mc]) = .slice A T.length c := rfl
  refine ⟨h1.below hb, gb_trans h2 (below_gb hb _), fun _ => (h3 d12).below hb hpu, fun e => ?_, fun _ => ⟨A, c, setG_self, row_mono hr h2.size⟩, fun e e' => ?_, fun e => ?_, fun _ e e' => ?_, fun _ e => ?_, fun e => ?_, fun e => ?_, fun e => ?_, fun e => ?_, fun e => ?_, fun e => ?_⟩
  · rw [setD_ne (by omega), d12] at e; cases e
  · rw [setD_ne (by omega)] at e e'; rw [setG_ne (by omega)]; exact (h6 e e').below hb
  · rw [setD_ne (by omega)] at e; rw [setG_ne (by omega)]; exact (h7 e).below hb
  · rw [setD_ne (by omega)] at e e'; rw [setG_self, setG_ne (by omega), ag]
    exact (sep_new (fun y hy => (row_at (h6 e e') y hy).2) (fun y hy => (row_at hr y hy).1)).symm
  · rw [setD_ne (by omega)] at e; rw [setG_self, setG_ne (by omega), ag]
    exact (sep_new (fun y hy => (row_at (h7 e) y hy).2) (fun y hy => (row_at hr y hy).1)).symm
  · rw [setD_ne (by omega), d10] at e; cases e
  · rw [setD_ne (by omega)] at e ⊢; exact h11 e
  · rw [setD_ne (by omega), d10] at e; cases e
  · rw [setD_ne (by omega), d12] at e; cases e
  · rw [setD_ne (by omega)] at e; rw [(h14 e).1] at hD; cases hD
  · rw [setD_ne (by omega)] at e; rw [(h14 e).1] at hD; cases hD
theorem FmtC.build (h : FmtC b w0 L T M cn mc p PT old V D γ u) (hD : D 5 = false) (hp : p < w0.heap.size) :
    FmtC b w0 L T M cn mc p PT old V (setD D 5) (setG γ 5 (.slice (some ⟨u.heap.size, 0, none⟩) 0 0)) (u.alloc (.cells #[] 68)) := by
  obtain ⟨h1, h2, h3, h4, h5, h6, h7, h8, h9, h10, h11, h12_, h13, h14, h15⟩ := h
  have h12 := fun e => h14 (h12_ e)
  have d8 : D 8 = false := by cases e : D 8 with | false => rfl | true => rw [h11 e] at hD; cases hD
  have d10 : D 10 = false := by cases e : D 10 with | false => rfl | true => rw [(h12 e).2] at d8; cases d8
  have d12 : D 12 = false := by cases e : D 12 with | false => rfl | true => rw [h13 e] at d10; cases d10
  have hpu : p < u.heap.size := Nat.lt_of_lt_of_le hp h2.size
  have hb := box_below u (.cells #[] 68)
  refine ⟨h1.alloc _, gb_alloc h2 _, fun _ => (h3 d12).below hb hpu, fun e => ?_, fun e => ?_, fun _ _ => ?_, fun e => ?_, fun e _ _ => ?_, fun _ e => ?_, fun e => ?_, fun e => ?_, fun e => ?_, fun e => ?_, fun e => ?_, fun e => ?_⟩
  · rw [setD_ne (by omega), d12] at e; cases e
  · rw [setD_ne (by omega)] at e; rw [setG_ne (by omega)]
    obtain ⟨A, c, e1, hr⟩ := h5 e
    exact ⟨A, c, e1, hr.below hb⟩
  · rw [setG_self]; exact SRow.made u h2.size
  · rw [setD_ne (by omega), d8] at e; cases e
  · rw [setD_ne (by omega)] at e; rw [setG_ne (by omega), setG_self]
    obtain ⟨A, c, e1, hr⟩ := h5 e
    rw [e1]
    exact sep_new (N := u.heap.size) (fun y hy => (row_at hr y hy).2) (fun y hy => by simp [blkOf] at hy; omega)
  · rw [setD_ne (by omega), d8] at e; cases e
  · rw [setD_ne (by omega), d10] at e; cases e
  · exact setD_self
  · rw [setD_ne (by omega), d10] at e; cases e
  · rw [setD_ne (by omega), d12] at e; cases e
  · rw [setD_ne (by omega)] at e; rw [(h14 e).2] at d8; cases d8
  · rw [setD_ne (by omega)] at e; rw [(h14 e).2] at d8; cases d8
theorem FmtC.append (h : FmtC b w0 L T M cn mc p PT old V D γ u) (h5' : D 5 = true) (hD : D 8 = false) (hp : p < w0.heap.size) (hL : ∀ x ∈ L, x.1 < w0.heap.size) (hb0 : b.heap.size ≤ w0.heap.size) {g : Nat} (hg5 : γ 5 = .slice (some ⟨g, 0, none⟩) 0 0) {v' : Value} (hr : ClRow v w0.heap.size v' M) (hg : u.grownBy v (some g))
    (hat : v'.ownBlock = some g ∨ v'.ownBlock = some u.heap.size) {A8 : Option Addr} {c8 : Nat} (hv' : v' = .slice A8 M.length c8) : FmtC b w0 L T M cn mc p PT old V (setD D 8) (setG γ 8 v') v := by
  obtain ⟨h1, h2, h3, h4, h5, h6, h7, h8, h9, h10, h11, h12_, h13, h14, h15⟩ := h
  have h12 := fun e => h14 (h12_ e)
  have d10 : D 10 = false := by cases e : D 10 with | false => rfl | true => rw [(h12 e).2] at hD; cases hD
  have d12 : D 12 = false := by cases e : D 12 with | false => rfl | true => rw [h13 e] at d10; cases d10
  have hgn : w0.heap.size ≤ g := by have h := h6 h5' hD; rw [hg5] at h; exact (SRow.lt h rfl).1
  refine ⟨h1.grown hg (by omega) (fun x hx => by have := hL x hx; omega), gb_newer h2 hg hgn, fun _ => (h3 d12).grown hg (by intro e; injection e; omega), fun e => ?_, fun e => ?_, fun _ e => ?_, fun _ => ?_, fun _ _ e => ?_, fun e _ => ?_, fun e => ?_, fun _ => ?_, fun e => ?_, fun e => ?_, fun e => ?_, fun e => ?_⟩
  · rw [setD_ne (by omega), d12] at e; cases e
  · rw [setD_ne (by omega)] at e; rw [setG_ne (by omega)]
    obtain ⟨A, c, e1, hrr⟩ := h5 e
    refine ⟨A, c, e1, row_keep hrr hg (fun hm => ?_)⟩
    have hs := h8 e h5' hD
    rw [e1, hg5] at hs
    exact hs g hm (by simp [blkOf])
  · rw [setD_self] at e; cases e
  · rw [setG_self]; exact hr
  · rw [setD_self] at e; cases e
  · rw [setD_ne (by omega)] at e; rw [setG_ne (by omega), setG_self]
    obtain ⟨A, c, e1, hrr⟩ := h5 e
    have hs := h8 e h5' hD
    intro y hy hm
    have hyb : v'.ownBlock = some y := by
      subst hv'
      cases A8 with
      | none => simp [blkOf] at hm
      | some a => simp [blkOf] at hm; subst hm; rfl
    rcases hat with ha | ha
    · rw [ha] at hyb; injection hyb with hyb; subst hyb
      rw [hg5] at hs
      exact hs g hy (by simp [blkOf])
    · rw [ha] at hyb; injection hyb with hyb; subst hyb
      rw [e1] at hy
      have := (row_at hrr _ hy).2
      omega
  · rw [setD_ne (by omega), d10] at e; cases e
  · rw [setD_ne (by omega)]; exact h5'
  · rw [setD_ne (by omega), d10] at e; cases e
  · rw [setD_ne (by omega), d12] at e; cases e
  · rw [setD_ne (by omega)] at e; rw [(h14 e).2] at hD; cases hD
  · rw [setD_ne (by omega)] at e; rw [(h14 e).2] at hD; cases hD
theorem FmtC.pack (h : FmtC b w0 L T M cn mc p PT old V D γ u) (h4' : D 4 = true) (h8' : D 8 = true) {x : Value} (hx : x = .agg #[.int .i64 cn, agg1 (γ 4), .int .i64 mc, γ 8]) : FmtC b w0 L T M cn mc p PT old V (setD D 9) (setG γ 9 x) u := by
  have k : ∀ i, i ≠ 9 → setD D 9 i = D i := fun i hi => setD_ne hi
  have q : ∀ i, i ≠ 9 → setG γ 9 x i = γ i := fun i hi => setG_ne hi
  unfold FmtC at h ⊢
  rw [k 12 (by omega), k 10 (by omega), k 8 (by omega), k 5 (by omega), k 4 (by omega), q 10 (by omega), q 8 (by omega), q 5 (by omega), q 4 (by omega)]
  obtain ⟨h1, h2, h3, h4, h5, h6, h7, h8, h9, h10, h11, h12, h13, h14, h15⟩ := h
  exact ⟨h1, h2, h3, h4, h5, h6, h7, h8, h9, h10, h11, fun _ => setD_self, h13, fun _ => ⟨h4', h8'⟩, fun _ => by rw [setG_self]; exact hx⟩
theorem FmtC.slots (h : FmtC b w0 L T M cn mc p PT old V D γ u) (hD : D 10 = false) (h9' : D 9 = true) (hp : p < w0.heap.size) :
    FmtC b w0 L T M cn mc p PT old V (setD D 10) (setG γ 10 (.slice (some ⟨u.heap.size, 0, none⟩) 2 2)) (u.alloc (.cells #[.int .i64 0, .slice none 0 0, .int .i64 0, .slice none 0 0, .int .i64 cn, agg1 (γ 4), .int .i64 mc, γ 8] 49)) := by
  obtain ⟨h1, h2, h3, h4, h5, h6, h7, h8, h9, h10, h11, h12_, h13, h14, h15⟩ := h
  have h12 := fun e => h14 (h12_ e)
  have d12 : D 12 = false := by cases e : D 12 with | false => rfl | true => rw [h13 e] at hD; cases hD
  obtain ⟨h4', h8'⟩ := h14 h9'
  have hpu : p < u.heap.size := Nat.lt_of_lt_of_le hp h2.size
  have hb := box_below u (.cells #[.int .i64 0, .slice none 0 0, .int .i64 0, .slice none 0 0, .int .i64 cn, agg1 (γ 4), .int .i64 mc, γ 8] 49)
  refine ⟨h1.alloc _, gb_alloc h2 _, fun _ => (h3 d12).below hb hpu, fun e => ?_, fun e => ?_, fun e e' => ?_, fun e => ?_, fun e e' e'' => ?_, fun e e' => ?_, fun _ => ?_, fun e => ?_, fun _ => ?_, fun e => ?_, fun e => ?_, fun e => ?_⟩
  · rw [setD_ne (by omega), d12] at e; cases e
  · rw [setD_ne (by omega)] at e; rw [setG_ne (by omega)]
    obtain ⟨A, c, e1, hr⟩ := h5 e
    exact ⟨A, c, e1, hr.below hb⟩
  · rw [setD_ne (by omega), h8'] at e'; cases e'
  · rw [setG_ne (by omega)]; exact (h7 h8').below hb
  · rw [setD_ne (by omega), h8'] at e''; cases e''
  · rw [setG_ne (by omega), setG_ne (by omega)]; exact h9 h4' h8'
  · rw [setG_self, setG_ne (by omega), setG_ne (by omega)]
    obtain ⟨A, c, e1, hr⟩ := h5 h4'
    refine ⟨u.heap.size, rfl, h2.size, CellsAt.new u _ _, fun hm => ?_, fun hm => ?_⟩
    · rw [e1] at hm
      have := (row_at hr _ hm).2
      omega
    · have := (row_at (h7 h8') _ hm).2
      omega
  · rw [setD_ne (by omega)] at e ⊢; exact h11 e
  · rw [setD_ne (by omega)]; exact h9'
  · exact setD_self
  · rw [setD_ne (by omega), setD_ne (by omega)]; exact ⟨h4', h8'⟩
  · rw [setD_ne (by omega)] at e; rw [setG_ne (by omega), setG_ne (by omega), setG_ne (by omega)]; exact h15 e
theorem FmtC.store (h : FmtC b w0 L T M cn mc p PT old V D γ u) (hd : D 10 = true) (hp : p < w0.heap.size) (hb0 : b.heap.size ≤ p) (hL : ∀ x ∈ L, x.1 ≠ p) (hg : u.grownBy v (some p)) (hc : CellsAt v p PT (V (γ 10))) {w : Value} : FmtC b w0 L T M cn mc p PT old V (setD D 12) (setG γ 12 w) v := by
  obtain ⟨h1, h2, h3, h4, h5, h6, h7, h8, h9, h10, h11, h12_, h13, h14, h15⟩ := h
  have h12 := fun e => h14 (h12_ e)
  obtain ⟨d4, d8⟩ := h12 hd
  refine ⟨h1.grown hg hb0 hL, gb_trans h2 hg, fun e => ?_, fun _ => ?_, fun e => ?_, fun _ e => ?_, fun _ => ?_, fun _ _ e => ?_, fun _ _ => ?_, fun _ => ?_, fun _ => ?_, fun _ => ?_, fun _ => ?_, fun _ => ?_, fun _ => ?_⟩
  · rw [setD_self] at e; cases e
  · rw [setG_ne (by omega)]; exact hc
  · rw [setG_ne (by omega)]
    obtain ⟨A, c, e1, hr⟩ := h5 d4
    exact ⟨A, c, e1, hr.grown hg hp⟩
  · rw [setD_ne (by omega), d8] at e; cases e
  · rw [setG_ne (by omega)]; exact (h7 d8).grown hg hp
  · rw [setD_ne (by omega), d8] at e; cases e
  · rw [setG_ne (by omega), setG_ne (by omega)]; exact h9 d4 d8
  · rw [setG_ne (by omega), setG_ne (by omega), setG_ne (by omega)]
    obtain ⟨g, e1, e2, e3, e4⟩ := h10 hd
    exact ⟨g, e1, e2, e3.grown hg (by intro e; injection e; omega), e4⟩
  · rw [setD_ne (by omega)]; exact h11 d8
  · rw [setD_ne (by omega)]; exact h12_ hd
  · rw [setD_ne (by omega)]; exact hd
  · rw [setD_ne (by omega), setD_ne (by omega)]; exact ⟨d4, d8⟩
  · rw [setG_ne (by omega), setG_ne (by omega), setG_ne (by omega)]; exact h15 (h12_ hd)
theorem FmtC.cellAt (h : FmtC b w0 L T M cn mc p PT old V D γ u) (i : Nat) {x : Option Value} (ho : old[i]? = x) (hV : ∀ v, (V v)[i]? = x) : u.cell? ⟨p, i, none⟩ = x := by
  cases e : D 12 with
  | false => rw [(h.2.2.1 e).cell i]; exact ho
  | true => rw [(h.2.2.2.1 e).cell i]; exact hV _
end
theorem steps_pure {P : Program} {ρ : Operand → Value} {o : Oper} {w : World} {K : Value → World → Prop} {v : Value} (hr : (execOp ρ o).run P w = .ok (.value v) w) (h : K v w) : stepsTo P ((execOp ρ o).run P w) K := by
  rw [hr]; exact h
theorem steps_store1 {P : Program} {ρ : Operand → Value} {o : Oper} {t : TypeId} {x y : Operand} {w : World} {K : Value → World → Prop} {p off : Nat} {T : TypeId} {old : Array Value} {A : Option Addr} {n c : Nat}
    (hc : CellsAt w p T old) (hsz : off < old.size) (hop : o.op = .store t x y) (hx : ρ x = .pointer (some ⟨p, off, none⟩)) (hy : ρ y = .slice A n c) (hi : (P.info? t).map (·.size) = some 1)
    (h : ∀ w', CellsAt w' p T (old.setIfInBounds off (.slice A n c)) → w.grownBy w' (some p) → K undef w') : stepsTo P ((execOp ρ o).run P w) K := by
  obtain ⟨z, hz⟩ : ∃ z, w.cell? ⟨p, off, none⟩ = some z := ⟨_, (hc.cell off).trans (Array.getElem?_eq_getElem hsz)⟩
  have hf := hc.frozen off
  have e2 : (execOp ρ o).run P w = .ok .skip (w.setCell ⟨p, off, none⟩ (.slice A n c)) := by
    unfold execOp
    rw [hop]
    have hq : ∃ i, P.info? t = some i ∧ i.size = 1 := by
      obtain ⟨i, h1, h2⟩ := Option.map_eq_some_iff.1 hi
      exact ⟨i, h1, h2⟩
    obtain ⟨i, hi1, hi2⟩ := hq
    simp [hx, hy, Instr.storeAt, Instr.sureAddr, storeVar, sizeOf, typeInfo, hi1, hi2, Value.cells, storeCells, go_sem, hz, hf, Addr.add]
  rw [e2]
  exact h _ (hc.set_ off _) (gb_set (gb_refl w (some p)) off _)
open Go.ChangeShapes Go.WideShapes Go.ChangeAt Go.RowKit Go.Maps
noncomputable def sumAll (key s : Int) (L : List Tri) : Int := L.foldl (fun s x => addOf s (tagOf key x.1 x.2.1 x.2.2)) s
noncomputable def sumOf (key : Int) (L : List Tri) : Int := if 1 ≤ key ∧ key ≤ 1000000 then sumAll key 0 L else -1
theorem sumAll_snoc (key s : Int) (L : List Tri) (x : Tri) : sumAll key s (L ++ [x]) = addOf (sumAll key s L) (tagOf key x.1 x.2.1 x.2.2) := by simp [sumAll]
theorem addOf_no (s : Int) : addOf s (-1) = -1 := by unfold addOf; rw [if_neg (by omega)]
theorem addOf_no' (t : Int) : addOf (-1) t = -1 := by unfold addOf; rw [if_neg (by omega)]
theorem sumAll_no (key : Int) (L : List Tri) : sumAll key (-1) L = -1 := by
  induction L with
  | nil => rfl
  | cons x L ih => show sumAll key (addOf (-1) _) L = -1; rw [addOf_no']; exact ih
theorem sumAll_bad {key s : Int} {L : List Tri} {x : Tri} (hx : x ∈ L) (hb : ¬ isTri x.1 x.2.1 x.2.2) : sumAll key s L = -1 := by
  induction L generalizing s with
  | nil => cases hx
  | cons y L ih =>
    rcases List.mem_cons.1 hx with rfl | hx
    · show sumAll key (addOf s _) L = -1; rw [tagOf_no hb, addOf_no]; exact sumAll_no key L
    · exact ih hx
theorem sumAll_take {key s : Int} {L : List Tri} {k : Nat} {a t v : Int} (h : L.take (k + 1) = L.take k ++ [(a, t, v)]) : sumAll key s (L.take (k + 1)) = addOf (sumAll key s (L.take k)) (tagOf key a t v) := by rw [h, sumAll_snoc]
theorem specSum_key (key : Int) (A : Option Addr) (L : List Tri) (cap : Nat) (w : World) (hk : key < 1 ∨ 1000000 < key) :
    Calls Tryz.prog 42 (pA key A L.length cap) w fun e w' => e = .returned (.int .i64 (-1)) ∧ w = w' := by
  go_enter Tryz.func42, Tryz.ntmps42
  go_wp2_with (go_at_call 35; refine (l1Key_no _ _ hk).mono ?_; rintro e w' ⟨rfl, rfl⟩)
  go_ret
  exact ⟨rfl, rfl⟩
set_option maxHeartbeats 1000000 in
theorem specSum_good (key : Int) (A : Option Addr) (L : List Tri) (cap : Nat) (w : World) (hn : L.length < maxLen) (hA : Tris w w.heap.size A L) (k0 : 1 ≤ key) (k1 : key ≤ 1000000) :
    Calls Tryz.prog 42 (pA key A L.length cap) w fun e w' => e = .returned (.int .i64 (sumAll key 0 L)) ∧ Below w.heap.size w w' := by
  have hm := hn
  unfold maxLen at hm
  have HA := Lib.hid hA
  clear hA hn
  go_enter Tryz.func42, Tryz.ntmps42
  go_wp2_with fail
  refine (l1Key_yes _ _ k0 k1).mono ?_; rintro e w' ⟨rfl, rfl⟩
  go_wp2_with fail
  go_loopw [5, 6] (fun s i wr => ∃ k : Nat, k ≤ L.length ∧ i = .int .i64 k ∧ s = .int .i64 (sumAll key 0 (L.take k)) ∧ Below w.heap.size w wr) (fun _ i _ => L.length - (intOf i).toNat)
  case atStart => exact ⟨0, Nat.zero_le _, rfl, rfl, Below.refl _ _⟩
  case round =>
    obtain ⟨k, hk, rfl, rfl, hbel⟩ := hrel
    have HB := Lib.hid hbel
    have hAr := HA.out.below hbel (Nat.le_refl _)
    clear hbel
    by_cases hlt : k < L.length
    · obtain ⟨b, off, rfl, hb, c0, c1, c2⟩ := hAr k hlt
      have hlt' : (k : Int) < L.length := by omega
      have hk0 : (0 : Int) ≤ k := by omega
      have hs := take_snoc hlt
      have hin := getD_mem hlt
      clear hAr
      generalize L.getD k (0, 0, 0) = T at c0 c1 c2 hs hin
      obtain ⟨a, t, v⟩ := T
      simp only at c0 c1 c2
      have HS := Lib.hid (sumAll_take (key := key) (s := 0) hs)
      have CO := Lib.hid (fun w => specTripleOk_calls a t v w)
      have CT := Lib.hid (fun w => specTag_calls key a t v w)
      by_cases hok : isTri a t v
      · rw [decide_eq_true hok] at CO
        clear hs hin hok
        generalize sumAll key 0 (L.take k) = s at HS
        generalize tagOf key a t v = d at HS CT
        go_wp2_with fail
        refine (CO.out _).mono ?_; rintro e w1 ⟨rfl, b1⟩
        have d0 := (b1.cell (p := ⟨b, off + k * 3, none⟩) (Nat.lt_of_lt_of_le hb HB.out.size)).trans c0
        have d1 := (b1.cell (p := ⟨b, off + k * 3 + 1, none⟩) (Nat.lt_of_lt_of_le hb HB.out.size)).trans c1
        have d2 := (b1.cell (p := ⟨b, off + k * 3 + 2, none⟩) (Nat.lt_of_lt_of_le hb HB.out.size)).trans c2
        have B1 := Lib.hid (HB.out.trans (b1.mono HB.out.size))
        clear b1 c0 c1 c2
        go_wp2_with fail
        refine (CT.out _).mono ?_; rintro e w2 ⟨rfl, b2⟩
        have B2 := Lib.hid (B1.out.trans (b2.mono B1.out.size))
        clear b2 d0 d1 d2
        go_wp2_with fail
        refine (specAdd_calls _ _ _).mono ?_; rintro e w' ⟨rfl, rfl⟩
        go_wp2_with fail
        go_roundw
        case rel => exact ⟨k + 1, by omega, by go_num, by rw [HS.out], B2.out⟩
        case measure => simp [intOf]; omega
      · rw [decide_eq_false hok] at CO
        have HX := Lib.hid (sumAll_bad (key := key) (s := 0) hin hok)
        clear hs hin hok
        go_wp2_with fail
        refine (CO.out _).mono ?_; rintro e w1 ⟨rfl, b1⟩
        have B1 := Lib.hid (HB.out.trans (b1.mono HB.out.size))
        clear b1 c0 c1 c2
        go_wp2_with fail
        go_ret
        exact ⟨by rw [HX.out]; rfl, B1.out⟩
    · have hk' : k = L.length := by omega
      clear hAr
      have HQ := Lib.hid (show L.take k = L by rw [hk', List.take_length])
      clear hk'
      go_wp2_with fail
      go_ret
      exact ⟨by rw [HQ.out]; rfl, HB.out⟩
theorem specSum_calls (key : Int) (A : Option Addr) (L : List Tri) (cap : Nat) (w : World) (hn : L.length < maxLen) (hA : Tris w w.heap.size A L) :
    Calls Tryz.prog 42 (pA key A L.length cap) w fun e w' => e = .returned (.int .i64 (sumOf key L)) ∧ Below w.heap.size w w' := by
  unfold sumOf
  by_cases hk : 1 ≤ key ∧ key ≤ 1000000
  · rw [if_pos hk]; exact specSum_good key A L cap w hn hA hk.1 hk.2
  · rw [if_neg hk]
    refine (specSum_key key A L cap w (by omega)).mono ?_
    rintro e w' ⟨rfl, rfl⟩
    exact ⟨rfl, Below.refl _ _⟩
noncomputable def cellsNew (key first : Int) (n : Nat) : List Ce := (List.range n).map fun (i : Nat) => cellOf key (first + (i : Int)) ((i : Int) + 1) 0
noncomputable def trisNew (key first : Int) (n : Nat) : List Tri := (List.range n).map fun (i : Nat) => tripleIn (first + (i : Int)) (cellOf key (first + (i : Int)) ((i : Int) + 1) 0).1 (cellOf key (first + (i : Int)) ((i : Int) + 1) 0).2
theorem cellsNew_succ (key first : Int) (n : Nat) : cellsNew key first (n + 1) = cellsNew key first n ++ [((cellOf key (first + n) (n + 1) 0).1, (cellOf key (first + n) (n + 1) 0).2)] := by simp [cellsNew, List.range_succ]
theorem trisNew_succ (key first : Int) (n : Nat) : trisNew key first (n + 1) = trisNew key first n ++ [tripleIn (first + n) (cellOf key (first + n) (n + 1) 0).1 (cellOf key (first + n) (n + 1) 0).2] := by simp [trisNew, List.range_succ]
theorem cellsNew_length (key first : Int) (n : Nat) : (cellsNew key first n).length = n := by simp [cellsNew]
theorem trisNew_length (key first : Int) (n : Nat) : (trisNew key first n).length = n := by simp [trisNew]
theorem tripleIn_i64 (a t v : Int) : I64 (tripleIn a t v).1 ∧ I64 (tripleIn a t v).2.1 ∧ I64 (tripleIn a t v).2.2 := by
  by_cases h : isTri a t v
  · rw [tripleIn_yes h]; exact h.i64
  · rw [tripleIn_no h]; exact ⟨⟨by decide, by decide⟩, ⟨by decide, by decide⟩, ⟨by decide, by decide⟩⟩
def NewK (b : World) (L : List Box) (base : Nat) (c t : Value) (C : List Ce) (T : List Tri) (q : Addr) (x : Value) (u : World) : Prop := Kept b L u ∧ CRow u base c C ∧ TRow u base t T ∧ q.block < u.heap.size ∧ u.cell? q = some x
theorem NewK.below {b u v : World} {L : List Box} {base : Nat} {c t x : Value} {C : List Ce} {T : List Tri} {q : Addr} (h : NewK b L base c t C T q x u) (hb : Below u.heap.size u v) : NewK b L base c t C T q x v :=
  ⟨h.1.below hb, h.2.1.below hb, h.2.2.1.below hb, Nat.lt_of_lt_of_le h.2.2.2.1 hb.size, (hb.cell h.2.2.2.1).trans h.2.2.2.2⟩
theorem NewK.cells {b u : World} {g p base : Nat} {zs : Array Value} {y z c t x : Value} {C : List Ce} {T : List Tri} {q : Addr} (h : NewK b [(g, 43, zs), (p, 26, #[y, z])] base c t C T q x u) :
    (u.cell? ⟨p, 0, none⟩ = some y ∧ u.cell? ⟨p, 1, none⟩ = some z ∧ u.cell? q = some x) ∧ NewK b [(g, 43, zs), (p, 26, #[y, z])] base c t C T q x u :=
  ⟨⟨h.1.tail.cell (List.mem_cons_self ..) 0, h.1.tail.cell (List.mem_cons_self ..) 1, h.2.2.2.2⟩, h⟩
set_option maxRecDepth 20000 in
set_option maxHeartbeats 2000000 in
theorem specNew_yes (key : Int) (A : Option Addr) (l : List Int) (cap r : Nat) (w : World) (hn : l.length ≤ maxLen) (hcap : l.length ≤ cap) (hA : Ints w .i64 w.heap.size A l) (hp : planOk key l) (hr : r < l.length) :
    Calls Tryz.prog 16 #[.agg (pA key A l.length cap), .int .i64 r] w fun e w' => ∃ u, e = .returned (.tuple #[.agg (tA (l.getD r 0) 0 0 0 (sumOf key (trisNew key (upTo l r) (l.getD r 0).toNat)) 0 0 false), u]) ∧
      CRow w' w.heap.size u (cellsNew key (upTo l r) (l.getD r 0).toNat) ∧ Below w.heap.size w w' := by
  have k0 := ((Kept.refl w).new 26 (pA key A l.length cap)).new 43 zT
  rw [show (w.alloc (.cells (pA key A l.length cap) 26)).heap.size = w.heap.size + 1 by simp] at k0
  have F := Lib.hid (fun (u : World) (hb : Below w.heap.size w u) => specFirst_yes key A l cap r u hn hcap ((hA.below hb (Nat.le_refl _)).more hb.size) hp hr)
  have K0 := Lib.hid k0
  have HA := Lib.hid hA
  obtain ⟨v, hvv⟩ : ∃ v, v = l.getD r 0 := ⟨_, rfl⟩
  have HV := Lib.hid hvv
  have hv := hp.2.2.1 r hr
  have hu := upTo_bd hp.2.2.1 (show r ≤ l.length by omega)
  have hl4 := hp.2.1.2
  rw [← hvv] at hv ⊢
  obtain ⟨f, hff⟩ : ∃ f, f = upTo l r := ⟨_, rfl⟩
  rw [← hff] at F hu ⊢
  obtain ⟨v0, v1⟩ := hv
  obtain ⟨u0, u1⟩ := hu
  have hr' : (r : Int) < l.length := by omega
  have hr0 : (0 : Int) ≤ r := by omega
  obtain ⟨ic, hci, hcz0, hcz1, hcz2⟩ := info_parts2
  obtain ⟨it, hti, htz0, htz1, htz2⟩ := info_parts3
  clear hA hn k0 hvv hff hp
  go_enter Tryz.func16, Tryz.ntmps16
  go_wp2_with fail
  refine (F.out _ K0.out.1).mono ?_; rintro e w1 ⟨rfl, b1⟩
  have z1 : w.heap.size + 1 + 1 ≤ w1.heap.size := by have := b1.size; simp at this; omega
  have K1 := Lib.hid (((K0.out.below b1).alloc (.cells #[] 68)).alloc (.cells #[] 71))
  have R1 := Lib.hid ((CRow.made w1 (w.heap.size + 1 + 1) z1).alloc (.cells #[] 71))
  have T1 := Lib.hid (TRow.made (w1.alloc (.cells #[] 68)) (w.heap.size + 1 + 1) (by simp; omega))
  have hf0 : ¬ f < 0 := by omega
  clear b1 F K0
  go_wp2_with fail
  rw [show (w1.alloc (.cells #[] 68)).heap.size = w1.heap.size + 1 by simp] at T1
  go_loopw [7, 8, 9] (fun c t i u => ∃ (k : Nat) (c' t' : Value), c' = c ∧ t' = t ∧ (k : Int) ≤ v ∧ i = .int .i64 k ∧ CRow u (w.heap.size + 1 + 1) c (cellsNew key f k) ∧ TRow u (w.heap.size + 1 + 1) t (trisNew key f k) ∧ (∀ g, c.ownBlock = some g → t.ownBlock ≠ some g) ∧ Kept w [(w.heap.size + 1, 43, zT), (w.heap.size, 26, (pA key A l.length cap))] u) (fun _ _ i _ => v.toNat - (intOf i).toNat)
  case atStart => exact ⟨0, _, _, rfl, rfl, by omega, rfl, R1.out, T1.out, by intro g h1 h2; have e1 : w1.heap.size = g := Option.some.inj h1; have e2 : w1.heap.size + 1 = g := Option.some.inj h2; omega, K1.out⟩
  case round =>
    obtain ⟨k, p7, p8, rfl, rfl, hk, rfl, hcr, htr, hne, hkp⟩ := hrel
    obtain ⟨bq, off, rfl, hbq, hcq⟩ := (HA.out.below hkp.1 (Nat.le_refl _)) r hr
    rw [← HV.out] at hcq
    have e0 := hkp.cell (p := w.heap.size) (t := 26) (cs := (pA key (some ⟨bq, off, none⟩) l.length cap)) (by simp) 0
    have e1 := hkp.cell (p := w.heap.size) (t := 26) (cs := (pA key (some ⟨bq, off, none⟩) l.length cap)) (by simp) 1
    simp only [List.getElem?_toArray, List.getElem?_cons_zero, List.getElem?_cons_succ] at e0 e1
    have CR := Lib.hid hcr
    have TT := Lib.hid htr
    have NE := Lib.hid hne
    have KP := Lib.hid hkp
    clear hcr htr hne hkp
    by_cases hlt : (k : Int) < v
    · have HSC := Lib.hid (cellsNew_succ key f k)
      have HST := Lib.hid (trisNew_succ key f k)
      have hw1 : IntKind.i64.wrap (f + k) = f + k := IntWalk.i64_in _ (by omega)
      have hw2 : IntKind.i64.wrap ((k : Int) + 1) = k + 1 := IntWalk.i64_in _ (by omega)
      have CC := Lib.hid (fun u => specCellOf_calls key (f + k) (k + 1) 0 u)
      generalize (cellOf key (f + k) (k + 1) 0).1 = c1 at CC HSC HST
      generalize (cellOf key (f + k) (k + 1) 0).2 = c2 at CC HSC HST
      go_wp2_with fail
      refine (CC.out _).mono ?_; rintro e w2 ⟨rfl, b2⟩
      have KP2 := Lib.hid (KP.out.below b2)
      have CR2 := Lib.hid (((CR.out.below b2).alloc (.cells (cA c1 c2) 68)).alloc (.cells (cA c1 c2) 68))
      have TT2 := Lib.hid (((TT.out.below b2).alloc (.cells (cA c1 c2) 68)).alloc (.cells (cA c1 c2) 68))
      have z2 := b2.size
      clear b2
      have hel : CellsAt ((w2.alloc (.cells (cA c1 c2) 68)).alloc (.cells (cA c1 c2) 68)) (w2.heap.size + 1) 68 (cA c1 c2) := by
        have h := CellsAt.new (w2.alloc (.cells (cA c1 c2) 68)) 68 (cA c1 c2)
        rwa [show (w2.alloc (.cells (cA c1 c2) 68)).heap.size = w2.heap.size + 1 by simp] at h
      have hbx : CellsAt ((w2.alloc (.cells (cA c1 c2) 68)).alloc (.cells (cA c1 c2) 68)) w2.heap.size 68 (cA c1 c2) := CellsAt.grown (CellsAt.new w2 68 (cA c1 c2)) (World.grownBy_alloc _ _ none) (by simp)
      have hsz : ((w2.alloc (.cells (cA c1 c2) 68)).alloc (.cells (cA c1 c2) 68)).heap.size = w2.heap.size + 1 + 1 := by simp
      have KB := Lib.hid ((KP2.out.alloc (.cells (cA c1 c2) 68)).alloc (.cells (cA c1 c2) 68))
      have zb : w.heap.size + 1 + 1 ≤ w2.heap.size := by have := (KP2.out.lt (List.mem_cons_self ..)); simp at this; omega
      have lc := cellsNew_length key f k
      have lt_ := trisNew_length key f k
      have own7 := fun g (h : p7.ownBlock = some g) => World.ownsRow.lt CR.out g h
      have own8 := fun g (h : p8.ownBlock = some g) => World.ownsRow.lt TT.out.1 g h
      have HEL := Lib.hid hel
      have HBX := Lib.hid hbx
      have O7 := Lib.hid own7
      have O8 := Lib.hid own8
      clear hel hbx own7 own8
      go_wp2_with (at_builtin; refine wpList_append_lies _ rfl _ _ 28 rfl (w.heap.size + 1 + 1) 68 ic (.agg zC) 2 16 Tryz.underlying28 hci hcz0 hcz1 hcz2 rfl (by omega) p7 (cellsNew key f k).length (flatC (cellsNew key f k)) rfl CR2.out ⟨w2.heap.size + 1, 0, none⟩ 1 1 [.int .i64 c1, .int .i64 c2] rfl rfl (World.news_of_block (cs := (cA c1 c2)) (t := 68) (fr := (0, 0)) HEL.out) (by simp [Value.oneCell']) (by omega) ?n1 ?n2 ?n3 (w2.heap.size + 1 + 1) ?n4 ?_)
      case n1 => unfold maxLen; omega
      case n2 => omega
      case n3 => simp; omega
      case n4 => simp
      intro gg cc wc hown hgrow hat hlt2
      have hrow7 := fun g (h : p7.ownBlock = some g) => O7.out g h
      have BC : Below (w.heap.size + 1 + 1) ((w2.alloc (.cells (cA c1 c2) 68)).alloc (.cells (cA c1 c2) 68)) wc := gr_below hgrow (by rw [hsz]; omega) (fun g h => (O7.out g h).1)
      have hbx3 : CellsAt wc w2.heap.size 68 (cA c1 c2) := HBX.out.grown hgrow (by intro e; have h2 := (O7.out _ e.symm).2; omega)
      have g0 : wc.cell? ⟨w2.heap.size, 0, none⟩ = some (.int .i64 c1) := hbx3.cell 0
      have g1 : wc.cell? ⟨w2.heap.size, 1, none⟩ = some (.int .i64 c2) := hbx3.cell 1
      have KC := Lib.hid (show Kept w [(w.heap.size + 1, 43, zT), (w.heap.size, 26, (pA key (some ⟨bq, off, none⟩) l.length cap))] wc from ⟨KB.out.1.trans (BC.mono (by omega)), fun y hy => ⟨(KB.out.2 y hy).1, (KB.out.2 y hy).2.below BC (by simp at hy; rcases hy with rfl | rfl <;> simp <;> omega)⟩⟩)
      have C3 := Lib.hid (CRow.snoc (L := cellsNew key f k) (t := c1) (z := c2) (by rw [lc]; exact hown))
      have T3 := Lib.hid (show TRow wc (w.heap.size + 1 + 1) p8 (trisNew key f k) from ⟨TT2.out.1.kept hgrow (by
        cases e : p8.ownBlock with
        | none => exact .inl rfl
        | some j => exact .inr (fun h => NE.out j h.symm e)), TT2.out.2⟩)
      have N3 : ∀ g, (Value.slice (some ⟨gg, 0, none⟩) (k + 1) cc).ownBlock = some g → p8.ownBlock ≠ some g := by
        intro g h1 h2
        have e1 : gg = g := Option.some.inj h1
        rcases hat with h | h
        · rw [e1] at h; exact NE.out g h h2
        · have := (O8.out g h2).2; omega
      have zc : w2.heap.size + 1 + 1 ≤ wc.heap.size := by have := BC.size; rw [hsz] at this; exact this
      have HN3 := Lib.hid N3
      clear hown hgrow hat hrow7 BC hbx3 N3 HEL HBX KB KP2 CR2 TT2
      have CT := Lib.hid (fun u => specTripleIn_calls (f + k) c1 c2 u)
      have TI := Lib.hid (tripleIn_i64 (f + k) c1 c2)
      generalize hti3 : tripleIn (f + k) c1 c2 = t3 at CT HST TI
      clear hti3
      obtain ⟨ta, tb, tc⟩ := t3
      go_wp2_with fail
      refine (CT.out _).mono ?_; rintro e wd ⟨rfl, bd⟩
      have KD := Lib.hid (KC.out.below bd)
      have C4 := Lib.hid ((C3.out.below bd).alloc (.cells #[.int .i64 ta, .int .i64 tb, .int .i64 tc] 71))
      have T4 := Lib.hid ((T3.out.below bd).alloc (.cells #[.int .i64 ta, .int .i64 tb, .int .i64 tc] 71))
      have O9 := Lib.hid (fun g (h : p8.ownBlock = some g) => World.ownsRow.lt (T3.out.below bd).1 g h)
      have O10 := Lib.hid (fun g (h : (Value.slice (some ⟨gg, 0, none⟩) (k + 1) cc).ownBlock = some g) => World.ownsRow.lt (C3.out.below bd) g h)
      have zd := bd.size
      clear bd g0 g1 KC C3 T3 CT
      go_wp2_with (at_builtin; refine wpList_append_lies _ rfl _ _ 66 rfl (w.heap.size + 1 + 1) 71 it (.agg #[.int .i64 0, .int .i64 0, .int .i64 0]) 3 24 Tryz.underlying66 hti htz0 htz1 htz2 rfl (by omega) p8 (trisNew key f k).length (flatT (trisNew key f k)) rfl T4.out.1 ⟨wd.heap.size, 0, none⟩ 1 1 [.int .i64 ta, .int .i64 tb, .int .i64 tc] rfl rfl (World.news_of_block (cs := #[.int .i64 ta, .int .i64 tb, .int .i64 tc]) (t := 71) (fr := (0, 0)) (heap_alloc_new wd _)) (by simp [Value.oneCell']) (by omega) ?m1 ?m2 ?m3 (wd.heap.size + 1) ?m4 ?_)
      case m1 => unfold maxLen; omega
      case m2 => omega
      case m3 => simp; omega
      case m4 => simp
      intro g5 c5 we hown hgrow hat hlt3
      have BE : Below (w.heap.size + 1 + 1) (wd.alloc (.cells #[.int .i64 ta, .int .i64 tb, .int .i64 tc] 71)) we := gr_below hgrow (by simp; omega) (fun g h => (O9.out g h).1)
      have kd := KD.out.alloc (.cells #[.int .i64 ta, .int .i64 tb, .int .i64 tc] 71)
      have KE := Lib.hid (show Kept w [(w.heap.size + 1, 43, zT), (w.heap.size, 26, (pA key (some ⟨bq, off, none⟩) l.length cap))] we from ⟨kd.1.trans (BE.mono (by omega)), fun y hy => ⟨(kd.2 y hy).1, (kd.2 y hy).2.below BE (by simp at hy; rcases hy with rfl | rfl <;> simp <;> omega)⟩⟩)
      have T5 := Lib.hid (TRow.snoc T4.out.2 TI.out.1 TI.out.2.1 TI.out.2.2 (by rw [lt_]; exact hown))
      have C5 := Lib.hid (C4.out.kept hgrow (by
        cases e : (Value.slice (some ⟨gg, 0, none⟩) (k + 1) cc).ownBlock with
        | none => exact .inl rfl
        | some j => exact .inr (fun h => HN3.out j e h.symm)))
      have N5 := Lib.hid (show ∀ g, (Value.slice (some ⟨gg, 0, none⟩) (k + 1) cc).ownBlock = some g → (Value.slice (some ⟨g5, 0, none⟩) (k + 1) c5).ownBlock ≠ some g from by
        intro g h1 h2
        have e2 : g5 = g := Option.some.inj h2
        rcases hat with h | h
        · rw [e2] at h; exact HN3.out g h1 h
        · have := (O10.out g h1).2; omega)
      clear hown hgrow hat BE kd C4 T4 KD O9 O10
      go_wp2_with fail
      go_roundw
      case rel => exact ⟨k + 1, _, _, rfl, rfl, by omega, by go_num, by rw [HSC.out]; exact C5.out, by rw [HST.out]; exact T5.out, N5.out, KE.out⟩
      case measure => simp [intOf]; omega
    · obtain rfl : v = k := by omega
      obtain ⟨Qt, ct, hqt, hlies⟩ := TT.out.lies
      have lt_ := trisNew_length key f k
      rw [lt_] at hqt
      subst hqt
      have SU := Lib.hid (fun u (h : (u.cell? ⟨w.heap.size, 0, none⟩ = some (.int .i64 key) ∧ u.cell? ⟨w.heap.size, 1, none⟩ = some (.slice (some ⟨bq, off, none⟩) l.length cap) ∧ u.cell? ⟨bq, off + r, none⟩ = some (.int .i64 k)) ∧ NewK w [(w.heap.size + 1, 43, zT), (w.heap.size, 26, (pA key (some ⟨bq, off, none⟩) l.length cap))] (w.heap.size + 1 + 1) p7 (.slice Qt k ct) (cellsNew key f k) (trisNew key f k) ⟨bq, off + r, none⟩ (.int .i64 k) u) => (show Calls Tryz.prog 42 (pA key Qt k ct) u fun e w' => e = .returned (.int .i64 (sumOf key (trisNew key f k))) ∧ Below u.heap.size u w' from by
        obtain ⟨Q2, c2, e2, hl2⟩ := TRow.lies h.2.2.2.1
        rw [lt_] at e2
        injection e2 with e2 e3 e4
        subst e2
        have hc := specSum_calls key Qt (trisNew key f k) ct u (by rw [lt_]; unfold maxLen; omega) hl2.tris
        rw [lt_] at hc
        exact hc))
      have N0 := Lib.hid (show NewK w [(w.heap.size + 1, 43, zT), (w.heap.size, 26, (pA key (some ⟨bq, off, none⟩) l.length cap))] (w.heap.size + 1 + 1) p7 (.slice Qt k ct) (cellsNew key f k) (trisNew key f k) ⟨bq, off + r, none⟩ (.int .i64 k) wr.drew from ⟨KP.out.drew, World.ownsRow.drew CR.out, ⟨TT.out.1.drew, TT.out.2⟩, Nat.lt_of_lt_of_le hbq KP.out.1.size, hcq⟩)
      have zr : w.heap.size + 1 < w.heap.size + 1 + 1 := by omega
      obtain ⟨sm, hsm⟩ : ∃ sm, sm = sumOf key (trisNew key f k) := ⟨_, rfl⟩
      rw [← hsm] at SU
      have HSM := Lib.hid hsm
      clear hsm
      clear hlies TT CR NE KP lt_
      go_upto_region 12 with fail
      obtain ⟨⟨y0, y1, y2⟩, -⟩ := NewK.cells N0.out
      have y0' : wr.cell? ⟨w.heap.size, 0, none⟩ = some (.int .i64 key) := y0
      have y1' : wr.cell? ⟨w.heap.size, 1, none⟩ = some (.slice (some ⟨bq, off, none⟩) l.length cap) := y1
      have y2' : wr.cell? ⟨bq, off + r, none⟩ = some (.int .i64 k) := y2
      clear y0 y1 y2
      go_region_with (go_at_call 42; refine (SU.out _ (NewK.cells N0.out)).mono ?_; rintro e wx ⟨rfl, bx⟩; have nx := N0.out.below bx; obtain ⟨⟨x0, x1, x2⟩, -⟩ := NewK.cells nx; have r0 : wx.cell? ⟨w.heap.size + 1, 0, none⟩ = some (.int .i64 0) := nx.1.cell (List.mem_cons_self ..) 0; have r1 : wx.cell? ⟨w.heap.size + 1, 1, none⟩ = some (.int .i64 0) := nx.1.cell (List.mem_cons_self ..) 1; have r2 : wx.cell? ⟨w.heap.size + 1, 2, none⟩ = some (.int .i64 0) := nx.1.cell (List.mem_cons_self ..) 2; have r3 : wx.cell? ⟨w.heap.size + 1, 3, none⟩ = some (.int .i64 0) := nx.1.cell (List.mem_cons_self ..) 3; have r4 : wx.cell? ⟨w.heap.size + 1, 4, none⟩ = some (.int .i64 0) := nx.1.cell (List.mem_cons_self ..) 4; have r5 : wx.cell? ⟨w.heap.size + 1, 5, none⟩ = some (.int .i64 0) := nx.1.cell (List.mem_cons_self ..) 5; have r6 : wx.cell? ⟨w.heap.size + 1, 6, none⟩ = some (.int .i64 0) := nx.1.cell (List.mem_cons_self ..) 6; have r7 : wx.cell? ⟨w.heap.size + 1, 7, none⟩ = some (.bool false) := nx.1.cell (List.mem_cons_self ..) 7; have h0 := nx.1.frozen (List.mem_cons_self ..) 0; have h1 := nx.1.frozen (List.mem_cons_self ..) 1; have h2 := nx.1.frozen (List.mem_cons_self ..) 2; have h3 := nx.1.frozen (List.mem_cons_self ..) 3; have h4 := nx.1.frozen (List.mem_cons_self ..) 4; have h5 := nx.1.frozen (List.mem_cons_self ..) 5; have h6 := nx.1.frozen (List.mem_cons_self ..) 6; have h7 := nx.1.frozen (List.mem_cons_self ..) 7; have NX := Lib.hid nx; clear nx bx)
      all_goals
        go_wp2_with fail
        obtain ⟨w9, e9, ⟨d0, d1, d2, d3, d4, d5, d6, d7⟩, -, hb, hg⟩ := trust_end (x0 := .int .i64 k) (x1 := .int .i64 0) (x2 := .int .i64 0) (x3 := .int .i64 0) (x4 := .int .i64 sm) (x5 := .int .i64 0) (x6 := .int .i64 0) (x7 := .bool false) (NX.out.1.at_ (List.mem_cons_self ..)) NX.out.1.1 (by omega)
        rw [e9]
        have R9 := Lib.hid ((NX.out.2.1.grown hg (by omega)).mono (show w.heap.size ≤ w.heap.size + 1 + 1 by omega))
        clear e9 hg
        exact bodyPost_ret (v := .tuple #[.agg (tA k 0 0 0 sm 0 0 false), p7]) (by simp [results, Tryz.results16, go_sem, d0, d1, d2, d3, d4, d5, d6, d7]) rfl ⟨p7, by rw [HSM.out, Int.toNat_natCast], by rw [Int.toNat_natCast]; exact R9.out, hb⟩
theorem fine_four {x y z u : Int} (hx : 0 ≤ x) (hy : 0 ≤ y) (hz : 0 ≤ z) (hu : 0 ≤ u) : Fine [x, y, z, u] := by
  intro i hi
  match i, hi with
  | 0, _ => exact hx
  | 1, _ => exact hy
  | 2, _ => exact hz
  | 3, _ => exact hu
theorem addOf_sum {a b : Int} (ha : isSumP a) (hb : isSumP b) : isSumP (addOf a b) := by
  unfold isSumP at *
  unfold addOf
  rw [if_pos ⟨ha, hb⟩]; omega
theorem tagOf_sum {key a t v : Int} (hk : isKey key) (h : isTri a t v) : isSumP (tagOf key a t v) := by
  refine ⟨?_, (tagOf_bd key a t v).2⟩
  rw [tagOf_yes h]
  unfold isTri isAt isTm isVal at h
  exact mixOf_nat hk.1 hk.2 (fine_four (by omega) (by omega) (by omega) (by omega))
theorem hiddenOf_val {key a t v : Int} (hk : isKey key) (h : isTri a t v) : isVal (hiddenOf key a t v) := by
  have hs := streamOf_nat hk.1 hk.2 h.1.1 h.2.1.1
  unfold hiddenOf
  rw [turnOf_yes hs h.2.2]
  unfold isVal; omega
theorem tripleIn_tag {key a t v : Int} (hk : isKey key) (ha : isAt a) (h : isCell t v) : isSumP (tagOf key (tripleIn a t v).1 (tripleIn a t v).2.1 (tripleIn a t v).2.2) := by
  have ht : isTri a t v := ⟨ha, h.1, h.2⟩
  rw [tripleIn_yes ht]; exact tagOf_sum hk ht
theorem cellOf_cell {key a t v : Int} (hk : isKey key) (ha : isAt a) (ht : isTm t) (hv : isVal v) : isCell (cellOf key a t v).1 (cellOf key a t v).2 := by
  have h : isTri a t v := ⟨ha, ht, hv⟩
  rw [cellOf_yes hk h]; exact ⟨ht, hiddenOf_val hk h⟩
theorem trustOk.i64 {key : Int} {l : List Int} {r : Int} {t : Tru} (h : trustOk key l r t) : TruI t := by
  obtain ⟨hp, p2, p3, p4, p5, p6, p7, p8, p9, p10⟩ := h
  have hl : l.getD r.toNat 0 ≤ 8 := (hp.2.2.1 r.toNat (by omega)).2
  unfold isTm at p3
  unfold isSumP at p7 p8 p9 p10
  exact ⟨⟨by omega, by omega⟩, ⟨by omega, by omega⟩, ⟨by omega, by omega⟩, ⟨by omega, by omega⟩, ⟨by omega, by omega⟩, ⟨by omega, by omega⟩, ⟨by omega, by omega⟩⟩
theorem trustsOk.i64 {key : Int} {l : List Int} {L : List Tru} (h : trustsOk key l L) : TrusI L := fun i hi => (h.2.2 i hi).i64
def SlN.Inv (key : Int) (l : List Int) (s : SlN) : Prop := (s.cells = [] ∨ cellsOk key l s.cells) ∧ s.trusts.length ≤ 4 ∧ TrusI s.trusts ∧ I64 s.count ∧ I64 s.mac
def VolN.Inv (x : VolN) : Prop := planOk x.key x.counts ∧ trustsOk x.key x.counts x.trusts ∧ cellsOk x.key x.counts x.cells ∧ (0 ≤ x.count ∧ x.count ≤ 10000) ∧ x.s0.Inv x.key x.counts ∧ x.s1.Inv x.key x.counts
theorem cellsOk.len {key : Int} {l : List Int} {L : List Ce} (hp : planOk key l) (h : cellsOk key l L) : (L.length : Int) = upTo l l.length ∧ L.length ≤ 24 := by
  have e := h.2
  unfold sectorsOf at e
  rw [if_pos hp] at e
  have := hp.2.2.2
  exact ⟨e, by omega⟩
theorem SlN.Inv.fits {key : Int} {l : List Int} {s : SlN} (hp : planOk key l) (h : s.Inv key l) : s.Fits := by
  obtain ⟨h0, h1, h2, h3, h4⟩ := h
  refine ⟨by omega, ?_, h2, h3⟩
  rcases h0 with h0 | h0
  · rw [h0]; simp
  · have := (h0.len hp).2; omega
theorem VolN.Inv.short {x : VolN} (h : x.Inv) : x.Short := by
  obtain ⟨hp, ht, hc, hn, h0, h1⟩ := h
  have a := hp.2.1.2
  have b := ht.2.1
  have c := (hc.len hp).2
  have d := h0.fits hp
  have e := h1.fits hp
  exact ⟨by omega, by omega, by omega, d.1, d.2.1, e.1, e.2.1⟩
end Go.Proofs.YtgaecedhkbneaaaGreat.Mx

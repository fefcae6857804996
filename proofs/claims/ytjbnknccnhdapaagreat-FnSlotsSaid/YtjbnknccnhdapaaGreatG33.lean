import Derived.Test.YtjbnknccnhdapaaGreatG32
import Derived.Test.YtjbnknccnhdapaaGreatG09
namespace Go.Proofs.YtjbnknccnhdapaaGreat.Mx
open Go.ChangeShapes Go.WideShapes Go.ChangeAt Go.RowKit
set_option linter.unusedVariables false
def SloD (w : World) (e : Ending) (w' : World) : Prop :=
 ∃ (key : Int) (Q : Option Addr) (zs : List Int) (c : Nat) (cnt : Int) (B : Option Addr) (L : List Tru) (tc : Nat) (mac : Int) (C : Option Addr) (M : List Ce) (cc : Nat), e = .returned (.tuple #[.agg #[.int .i64 key, .slice Q zs.length c], .agg #[.int .i64 cnt, .slice B L.length tc, .int .i64 mac, .slice C M.length cc]]) ∧ I64 cnt ∧ zs.length ≤ 5 ∧ zs.length ≤ c ∧ TrusI L ∧ L.length ≤ 4 ∧ M.length ≤ 25 ∧ Ints w' .i64 w'.heap.size Q zs ∧ Trs w' w'.heap.size B L ∧ Cls w' w'.heap.size C M ∧ Below w.heap.size w w'
def T13 (w v : World) (g : Nat) (A : Option Addr) (l : List Int) (cap lo bv bs : Nat) (key : Int) (Q : Option Addr) (zs : List Int) (c : Nat) (x2 x3 x4 x5 : Value) (cnt : Int) (B : Option Addr) (L : List Tru) (tc : Nat) (mac : Int) (C : Option Addr) (M : List Ce) (cc : Nat) (u : World) : Prop :=
 KB w v g A l cap [(bs, 32, #[.int .i64 cnt, .slice B L.length tc, .int .i64 mac, .slice C M.length cc]), (bv, 45, #[.int .i64 key, .slice Q zs.length c, x2, x3, x4, x5]), (w.heap.size + 1, 32, #[.int .i64 0, .slice none 0 0, .int .i64 0, .slice none 0 0]), (w.heap.size, 26, #[.int .i64 0, .slice none 0 0])] u ∧ RowB u lo bv Q zs c ∧ (w.heap.size + 1 < g ∧ g < lo ∧ lo ≤ bv ∧ bv < bs) ∧ zs.length ≤ 5 ∧ zs.length ≤ c ∧ I64 cnt ∧ TrusI L ∧ L.length ≤ 4 ∧ M.length ≤ 25 ∧ TrRow u lo (.slice B L.length tc) L ∧ ClRow u lo (.slice C M.length cc) M ∧ (∀ k, (Value.slice B L.length tc).ownBlock = some k → k < bv) ∧ (∀ k, (Value.slice C M.length cc).ownBlock = some k → k ≠ bv ∧ k ≠ bs)
section
variable {w v u u' : World} {g : Nat} {A : Option Addr} {l : List Int} {cap lo bv bs : Nat} {key : Int} {Q : Option Addr} {zs : List Int} {c : Nat} {x2 x3 x4 x5 : Value} {cnt : Int} {B : Option Addr} {L : List Tru} {tc : Nat} {mac : Int} {C : Option Addr} {M : List Ce} {cc : Nat}
theorem T13.step (h : T13 w v g A l cap lo bv bs key Q zs c x2 x3 x4 x5 cnt B L tc mac C M cc u) (hs : St v g A l cap u') (hg : u.grownBy u' (some g)) : T13 w v g A l cap lo bv bs key Q zs c x2 x3 x4 x5 cnt B L tc mac C M cc u' := by
 obtain ⟨h1, h2, h3, h4, h5, h6, h7, h8, h8', h9, h10, h11, h12⟩ := h
 exact ⟨h1.step hs hg, h2.grown hg (.inl (by omega)), h3, h4, h5, h6, h7, h8, h8', SRow.grown h9 hg (by omega), SRow.grown h10 hg (by omega), h11, h12⟩
theorem T13.drew (h : T13 w v g A l cap lo bv bs key Q zs c x2 x3 x4 x5 cnt B L tc mac C M cc u) : T13 w v g A l cap lo bv bs key Q zs c x2 x3 x4 x5 cnt B L tc mac C M cc u.drew := ⟨h.1.drew, h.2.1.drew, h.2.2.1, h.2.2.2.1, h.2.2.2.2.1, h.2.2.2.2.2.1, h.2.2.2.2.2.2.1, h.2.2.2.2.2.2.2.1, h.2.2.2.2.2.2.2.2.1, h.2.2.2.2.2.2.2.2.2.1.drew, h.2.2.2.2.2.2.2.2.2.2.1.drew, h.2.2.2.2.2.2.2.2.2.2.2⟩
theorem T13.below (h : T13 w v g A l cap lo bv bs key Q zs c x2 x3 x4 x5 cnt B L tc mac C M cc u) (hb : Below u.heap.size u u') : T13 w v g A l cap lo bv bs key Q zs c x2 x3 x4 x5 cnt B L tc mac C M cc u' :=
 ⟨h.1.below hb, h.2.1.below hb, h.2.2.1, h.2.2.2.1, h.2.2.2.2.1, h.2.2.2.2.2.1, h.2.2.2.2.2.2.1, h.2.2.2.2.2.2.2.1, h.2.2.2.2.2.2.2.2.1, h.2.2.2.2.2.2.2.2.2.1.below hb, h.2.2.2.2.2.2.2.2.2.2.1.below hb, h.2.2.2.2.2.2.2.2.2.2.2⟩
end
theorem KB.gro {w v u u' : World} {g : Nat} {A : Option Addr} {l : List Int} {cap : Nat} {LX : List Box} {r : Option Nat} (h : KB w v g A l cap LX u) (hg : u.grownBy u' r) (hr : ∀ k, r = some k → g < k ∧ ∀ x ∈ LX, x.1 ≠ k) : KB w v g A l cap LX u' := by
 have hgl := h.2.1.2.lt
 have hw := h.2.2.1
 refine ⟨h.1.trans (gr_below hg h.1.size (fun k e => by have := (hr k e).1; omega)), h.2.1.below (gr_below (B := g + 1) hg (by omega) (fun k e => by have := (hr k e).1; omega)) (by omega), hw, fun x hx => ⟨(h.2.2.2 x hx).1, (h.2.2.2 x hx).2.grown hg (fun e => (hr x.1 e.symm).2 x hx rfl)⟩⟩
theorem KB.putB {w v u u' : World} {g k p : Nat} {A : Option Addr} {l : List Int} {cap : Nat} {LX : List Box} {t : TypeId} {cs cs' : Array Value} (h : KB w v g A l cap LX u) (hg : u.grownBy u' (some p)) (hgp : g < p) (hk : LX[k]? = some (p, t, cs)) (ha : Apart LX) (hc : CellsAt u' p t cs') : KB w v g A l cap (putBox LX k cs') u' := by
 have hm : (p, t, cs) ∈ LX := List.mem_of_getElem? hk
 have hp : w.heap.size ≤ p := (h.2.2.2 _ hm).1.1
 refine ⟨bgb h.1 hg h.1.size hp, h.2.1.off hg hgp, h.2.2.1, fun x hx => ?_⟩
 unfold putBox at hx
 obtain ⟨j, hj⟩ := List.mem_iff_getElem?.1 hx
 rw [List.getElem?_modify] at hj
 by_cases hkj : k = j
 ·subst hkj
  rw [hk] at hj
  simp only [if_true, Option.map_eq_map, Option.map_some, Option.some.injEq] at hj
  subst hj
  exact ⟨(h.2.2.2 _ hm).1, hc⟩
 ·simp only [hkj, if_false, Option.map_eq_map, Option.map_id_fun', id_eq] at hj
  have hxm := List.mem_of_getElem? hj
  refine ⟨(h.2.2.2 x hxm).1, (h.2.2.2 x hxm).2.grown hg ?_⟩
  intro e
  injection e with e
  unfold Apart at ha
  have h1 : (LX.map (·.1))[j]? = some x.1 := by rw [List.getElem?_map, hj]; rfl
  have h2 : (LX.map (·.1))[k]? = some p := by rw [List.getElem?_map, hk]; rfl
  rw [← e] at h2
  have hjl : j < (LX.map (·.1)).length := (List.getElem?_eq_some_iff.1 h1).1
  exact hkj ((List.getElem?_inj hjl ha).1 (h1.trans h2.symm)).symm
theorem apart_of {u : World} {b b' t t' sz sz' n n' : Nat} {v v' : Value} {xs xs' : List Value} (h : u.ownsRow b t sz v n xs) (h' : u.ownsRow b' t' sz' v' n' xs') (ht : t ≠ t') : v.ownBlock = none ∨ v.ownBlock ≠ v'.ownBlock := by
 rcases h'.2 with ⟨rfl, _⟩ | ⟨k, cap, cur, rfl, r⟩
 ·cases e : v.ownBlock with
  | none => exact .inl rfl
  | some k => exact .inr (by simp [Value.ownBlock])
 ·refine .inr ?_
  have := own_apart h h' ht
  simpa [Value.ownBlock] using this
section
variable {w v u u' : World} {g : Nat} {A : Option Addr} {l : List Int} {cap lo bv bs : Nat} {key : Int} {Q : Option Addr} {zs : List Int} {c : Nat} {x2 x3 x4 x5 : Value} {cnt : Int} {B : Option Addr} {L : List Tru} {tc : Nat} {mac : Int} {C : Option Addr} {M : List Ce} {cc : Nat}
theorem slot_put {w1 : World} {r : Nat} {t : TypeId} {x0 x1 x2 x3 y0 y1 y2 y3 : Value} (hk : CellsAt w1 r t #[y0, y1, y2, y3]) :
    CellsAt ((((w1.setCell ⟨r, 0, none⟩ x0).setCell ⟨r, 1, none⟩ x1).setCell ⟨r, 2, none⟩ x2).setCell ⟨r, 3, none⟩ x3) r t #[x0, x1, x2, x3] ∧ w1.grownBy ((((w1.setCell ⟨r, 0, none⟩ x0).setCell ⟨r, 1, none⟩ x1).setCell ⟨r, 2, none⟩ x2).setCell ⟨r, 3, none⟩ x3) (some r) :=
 ⟨(((hk.set_ 0 x0).set_ 1 x1).set_ 2 x2).set_ 3 x3, gb_set (gb_set (gb_set (gb_set (gb_refl w1 (some r)) 0 x0) 1 x1) 2 x2) 3 x3⟩
theorem T13.box (h : T13 w v g A l cap lo bv bs key Q zs c x2 x3 x4 x5 cnt B L tc mac C M cc u) {cnt' mac' : Int} (hi : I64 cnt') (hg : u.grownBy u' (some bs)) (hc : CellsAt u' bs 32 #[.int .i64 cnt', .slice B L.length tc, .int .i64 mac', .slice C M.length cc]) : T13 w v g A l cap lo bv bs key Q zs c x2 x3 x4 x5 cnt' B L tc mac' C M cc u' := by
 obtain ⟨h1, h2, ⟨h3, i1, i2, i3⟩, h4, h5, h6, h7, h8, h8', h9, h10, h11, h12⟩ := h
 refine ⟨h1.putB (k := 0) hg (by omega) rfl (by unfold Apart; simp <;> omega) hc, h2.grown hg (.inr (by omega)), ⟨h3, i1, i2, i3⟩, h4, h5, hi, h7, h8, h8', SRow.kept h9 hg ?_, SRow.kept h10 hg ?_, h11, h12⟩
 ·cases e : (Value.slice B L.length tc).ownBlock with
  | none => exact .inl rfl
  | some k => exact .inr (by intro e2; injection e2 with e2; have := h11 k e; omega)
 ·cases e : (Value.slice C M.length cc).ownBlock with
  | none => exact .inl rfl
  | some k => exact .inr (by intro e2; injection e2 with e2; have := h12 k e; omega)
theorem T13.c0 (h : T13 w v g A l cap lo bv bs key Q zs c x2 x3 x4 x5 cnt B L tc mac C M cc u) {x : Int} (hx : I64 x) : T13 w v g A l cap lo bv bs key Q zs c x2 x3 x4 x5 x B L tc mac C M cc (u.setCell ⟨bs, 0, none⟩ (.int .i64 x)) :=
 h.box hx (gb_set (gb_refl u (some bs)) 0 (.int .i64 x)) ((h.1.at_ (p := bs) (t := 32) (cs := #[.int .i64 cnt, .slice B L.length tc, .int .i64 mac, .slice C M.length cc]) (by simp)).set_ 0 _)
theorem T13.c2 (h : T13 w v g A l cap lo bv bs key Q zs c x2 x3 x4 x5 cnt B L tc mac C M cc u) {x : Int} : T13 w v g A l cap lo bv bs key Q zs c x2 x3 x4 x5 cnt B L tc x C M cc (u.setCell ⟨bs, 2, none⟩ (.int .i64 x)) :=
 h.box h.2.2.2.2.2.1 (gb_set (gb_refl u (some bs)) 2 (.int .i64 x)) ((h.1.at_ (p := bs) (t := 32) (cs := #[.int .i64 cnt, .slice B L.length tc, .int .i64 mac, .slice C M.length cc]) (by simp)).set_ 2 _)
theorem T13.grow (h : T13 w v g A l cap lo bv bs key Q zs c x2 x3 x4 x5 cnt B L tc mac C M cc u) {gg cap' : Nat} (hg : u.grownBy u' (Value.slice C M.length cc).ownBlock) (hr : ClRow u' lo (.slice (some ⟨gg, 0, none⟩) (M ++ [(0, 0)]).length cap') (M ++ [(0, 0)])) (hat : (Value.slice C M.length cc).ownBlock = some gg ∨ gg = u.heap.size) (h24 : M.length ≤ 24) :
    ((∀ i, u'.cell? ⟨bs, i, none⟩ = #[.int .i64 cnt, .slice B L.length tc, .int .i64 mac, .slice C M.length cc][i]?) ∧ (∀ i, u'.frozen? ⟨bs, i, none⟩ = false)) ∧ T13 w v g A l cap lo bv bs key Q zs c x2 x3 x4 x5 cnt B L tc mac (some ⟨gg, 0, none⟩) (M ++ [(0, 0)]) cap' (u'.setCell ⟨bs, 3, none⟩ (.slice (some ⟨gg, 0, none⟩) (M ++ [(0, 0)]).length cap')) := by
 obtain ⟨h1, h2, ⟨h3, i1, i2, i3⟩, h4, h5, h6, h7, h8, h8', h9, h10, h11, h12⟩ := h
 have lbs : bs < u.heap.size := h1.lt (x := (bs, 32, #[.int .i64 cnt, .slice B L.length tc, .int .i64 mac, .slice C M.length cc])) (by simp)
 have hlt := fun k e => SRow.lt h10 (g := k) e
 have k1 := h1.gro hg (fun k e => ⟨by have := (hlt k e).1; omega, fun x hx => by
  have := h12 k e
  have := (hlt k e).1
  simp at hx
  rcases hx with rfl | rfl | rfl | rfl <;> (simp only []; omega)⟩)
 have r1 : RowB u' lo bv Q zs c := ⟨⟨h2.1.1.kept hg (apart_of h2.1.1 h10 (by decide)), h2.1.2⟩, h2.2⟩
 have t1 := SRow.kept h9 hg (apart_of h9 h10 (by decide))
 have hne : gg ≠ bv ∧ gg ≠ bs := by
  rcases hat with e | e
  ·exact h12 gg e
  ·constructor <;> omega
 have hg2 := gb_set (gb_refl u' (some bs)) 3 (.slice (some ⟨gg, 0, none⟩) (M ++ [(0, 0)]).length cap')
 refine ⟨⟨(k1.at_ (p := bs) (t := 32) (cs := #[.int .i64 cnt, .slice B L.length tc, .int .i64 mac, .slice C M.length cc]) (by simp)).cell, (k1.at_ (p := bs) (t := 32) (cs := #[.int .i64 cnt, .slice B L.length tc, .int .i64 mac, .slice C M.length cc]) (by simp)).frozen⟩, k1.putB (k := 0) hg2 (by omega) rfl (by unfold Apart; simp <;> omega) ((k1.at_ (p := bs) (t := 32) (cs := #[.int .i64 cnt, .slice B L.length tc, .int .i64 mac, .slice C M.length cc]) (by simp)).set_ 3 _), r1.grown hg2 (.inr (by omega)), ⟨h3, i1, i2, i3⟩, h4, h5, h6, h7, h8, by simp; omega, SRow.kept t1 hg2 ?_, SRow.kept hr hg2 ?_, h11, ?_⟩
 ·cases e : (Value.slice B L.length tc).ownBlock with
  | none => exact .inl rfl
  | some k => exact .inr (by intro e2; injection e2 with e2; have := h11 k e; omega)
 ·exact .inr (by intro e; simp [Value.ownBlock] at e; exact hne.2 e)
 ·intro k e
  obtain rfl : gg = k := by simpa [Value.ownBlock] using e
  exact hne
theorem ClRow.set1 {w : World} {base c g : Nat} {L : List Ce} {k j : Nat} (h : ClRow w base (.slice (some ⟨g, 0, none⟩) L.length c) L) (hk : k < L.length) (hj : j < 2) (t : Ce) (x : Value) (ht : ceV t = (ceV (L.getD k default)).set j x) :
    ClRow (w.setCell ⟨g, k * 2 + j, none⟩ x) base (.slice (some ⟨g, 0, none⟩) L.length c) (L.set k t) := by
 have hb : (k + 1) * 2 ≤ L.length * 2 := Nat.mul_le_mul_right 2 hk
 have h8 := row_setCell h (i := k * 2 + j) (by omega) x
 unfold ClRow SRow
 rw [List.length_set]
 have e : flatS ceV (L.set k t) = (flatS ceV L).set (k * 2 + j) x := by
  apply List.ext_getElem?
  intro i
  have hlen : (flatS ceV L).length = L.length * 2 := flatS_length ceV_len
  rcases Nat.lt_or_ge i (L.length * 2) with hi | hi
  ·rw [flatS_set ceV_len L k t hk i hi]
   by_cases hin : k * 2 ≤ i ∧ i < (k + 1) * 2
   ·rw [if_pos hin, ht]
    obtain ⟨m, hm, rfl⟩ : ∃ m, m < 2 ∧ i = k * 2 + m := ⟨i - k * 2, by omega, by omega⟩
    rw [Nat.add_sub_cancel_left, List.getElem?_set, List.getElem?_set, flatS_get ceV_len k m hk hm, ceV_len, hlen]
    by_cases hjm : j = m
    ·subst hjm; rw [if_pos rfl, if_pos rfl, if_pos hj, if_pos hi]
    ·rw [if_neg hjm, if_neg (by omega)]
   ·rw [if_neg hin, List.getElem?_set, if_neg (by omega)]
  ·rw [List.getElem?_eq_none (by rw [flatS_length ceV_len, List.length_set]; exact hi), List.getElem?_eq_none (by rw [List.length_set, hlen]; exact hi)]
 rw [e]
 exact h8
theorem T13.cel (h : T13 w v g A l cap lo bv bs key Q zs c x2 x3 x4 x5 cnt B L tc mac C M cc u) (hp : 0 < M.length) : ∃ gC, C = some ⟨gC, 0, none⟩ ∧ u.cell? ⟨gC, 1, none⟩ = some (.int .i64 (M.getD 0 default).2) ∧ (∀ i, u.frozen? ⟨gC, i, none⟩ = false) ∧ ∀ x : Int, T13 w v g A l cap lo bv bs key Q zs c x2 x3 x4 x5 cnt B L tc mac C (M.set 0 ((M.getD 0 default).1, x)) cc (u.setCell ⟨gC, 1, none⟩ (.int .i64 x)) := by
 obtain ⟨h1, h2, ⟨h3, i1, i2, i3⟩, h4, h5, h6, h7, h8, h8', h9, h10, h11, h12⟩ := h
 have hlt := fun k e => SRow.lt h10 (g := k) e
 rcases h10.2 with ⟨e, h0⟩ | ⟨gC, cap', cur, e, hb, hg0, hnc, hcm, hcs, htk⟩
 ·omega
 ·simp only [Value.slice.injEq, true_and] at e
  obtain ⟨rfl, rfl⟩ := e
  have hne := h12 gC rfl
  have hl1 := (hlt gC rfl).1
  refine ⟨gC, rfl, ?_, (show CellsAt u gC 55 cur from hg0).frozen, fun x => ?_⟩
  ·obtain ⟨b, off, e, -, hc⟩ := Cls.at_ (row_cls h10 ceV_len) hp
   injection e with e
   injection e with e1 e2
   subst e1 e2
   simpa using hc.2
  ·have hg := gb_set (gb_refl u (some gC)) 1 (.int .i64 x)
   have hr := ClRow.set1 h10 hp (j := 1) (by omega) ((M.getD 0 default).1, x) (.int .i64 x) rfl
   rw [Nat.zero_mul, Nat.zero_add] at hr
   have k1 := h1.gro hg (fun k e => by
    injection e with e
    subst e
    refine ⟨by omega, fun y hy => ?_⟩
    simp at hy
    rcases hy with rfl | rfl | rfl | rfl <;> (simp only []; omega))
   have ap : ∀ {b t sz n : Nat} {v : Value} {xs : List Value}, u.ownsRow b t sz v n xs → t ≠ 55 → v.ownBlock = none ∨ v.ownBlock ≠ some gC := fun hh ht => by
    have := apart_of hh h10 ht
    simpa [Value.ownBlock] using this
   unfold T13
   simp only [List.length_set]
   exact ⟨k1, ⟨⟨h2.1.1.kept hg (ap h2.1.1 (by decide)), h2.1.2⟩, h2.2⟩, ⟨h3, i1, i2, i3⟩, h4, h5, h6, h7, h8, h8', SRow.kept h9 hg (ap h9 (by decide)), hr, h11, h12⟩
theorem rowb_ints {lo hi : Nat} (h : RowB u lo hi Q zs c) : Ints u .i64 u.heap.size Q zs := h.1.ints
theorem T13.end_ (h : T13 w v g A l cap lo bv bs key Q zs c x2 x3 x4 x5 cnt B L tc mac C M cc u) : ∃ w4, ((((((u.setCell ⟨w.heap.size, 0, none⟩ (.int .i64 key)).setCell ⟨w.heap.size, 1, none⟩ (.slice Q zs.length c)).setCell ⟨w.heap.size + 1, 0, none⟩ (.int .i64 cnt)).setCell ⟨w.heap.size + 1, 1, none⟩ (.slice B L.length tc)).setCell ⟨w.heap.size + 1, 2, none⟩ (.int .i64 mac)).setCell ⟨w.heap.size + 1, 3, none⟩ (.slice C M.length cc)) = w4 ∧ ((∀ i, w4.cell? ⟨w.heap.size, i, none⟩ = #[.int .i64 key, .slice Q zs.length c][i]?) ∧ (∀ i, w4.cell? ⟨w.heap.size + 1, i, none⟩ = #[.int .i64 cnt, .slice B L.length tc, .int .i64 mac, .slice C M.length cc][i]?)) ∧ SloD w (.returned (.tuple #[.agg #[.int .i64 key, .slice Q zs.length c], .agg #[.int .i64 cnt, .slice B L.length tc, .int .i64 mac, .slice C M.length cc]])) w4 := by
 obtain ⟨h1, h2, ⟨h3, i1, i2, i3⟩, h4, h5, h6, h7, h8, h8', h9, h10, h11, h12⟩ := h
 have p1 := plan_put (x0 := .int .i64 key) (x1 := .slice Q zs.length c) (h1.at_ (p := w.heap.size) (t := 26) (cs := #[.int .i64 0, .slice none 0 0]) (by simp))
 have p2 := slot_put (x0 := .int .i64 cnt) (x1 := .slice B L.length tc) (x2 := .int .i64 mac) (x3 := .slice C M.length cc) ((h1.at_ (p := w.heap.size + 1) (t := 32) (cs := #[.int .i64 0, .slice none 0 0, .int .i64 0, .slice none 0 0]) (by simp)).grown p1.2 (by intro e; injection e; omega))
 have c1 := p1.1.grown p2.2 (by intro e; injection e; omega)
 have r1 := (h2.grown p1.2 (.inl (by omega))).grown p2.2 (.inl (by omega))
 have t1 := SRow.grown (SRow.grown h9 p1.2 (by omega)) p2.2 (by omega)
 have m1 := SRow.grown (SRow.grown h10 p1.2 (by omega)) p2.2 (by omega)
 have b1 := bgb (bgb h1.1 p1.2 h1.1.size (Nat.le_refl _)) p2.2 (Nat.le_trans h1.1.size p1.2.size) (by omega)
 exact ⟨_, rfl, ⟨c1.cell, p2.1.cell⟩, key, Q, zs, c, cnt, B, L, tc, mac, C, M, cc, rfl, h6, h4, h5, h7, h8, h8', rowb_ints r1, row_cls t1 truV_len, row_cls m1 ceV_len, b1⟩
end
theorem KB.more {w v u : World} {g p : Nat} {A : Option Addr} {l : List Int} {cap : Nat} {LX : List Box} {t : TypeId} {cs : Array Value} (h : KB w v g A l cap LX u) (hp : w.heap.size ≤ p) (hg : p ≠ g) (hc : CellsAt u p t cs) : KB w v g A l cap ((p, t, cs) :: LX) u := by
 refine ⟨h.1, h.2.1, h.2.2.1, fun x hx => ?_⟩
 rcases List.mem_cons.1 hx with rfl | hx
 ·exact ⟨⟨hp, hg⟩, hc⟩
 ·exact h.2.2.2 x hx
theorem steps_load4 {P : Program} {ρ : Operand → Value} {o : Oper} {t : TypeId} {x : Operand} {w : World} {K : Value → World → Prop} {p k : Nat} {d : TypeDesc} {a b c e : Value} (h0 : w.cell? ⟨p, k, none⟩ = some a) (h1 : w.cell? ⟨p, k + 1, none⟩ = some b) (h2 : w.cell? ⟨p, k + 2, none⟩ = some c) (h3 : w.cell? ⟨p, k + 3, none⟩ = some e)
    (hop : o.op = .load t x) (hx : ρ x = .pointer (some ⟨p, k, none⟩)) (hu : P.underlying t = some d) (hd : d.isRow = true) (hi : (P.info? t).map (·.size) = some 4) (h : K (.agg #[a, b, c, e]) w) : stepsTo P ((execOp ρ o).run P w) K := by
 have hr : w.rangeAt p k [a, b, c, e] := fun j v hj => by
  match j, hj with
  | 0, hj => simp at hj; subst hj; exact h0
  | 1, hj => simp at hj; subst hj; exact h1
  | 2, hj => simp at hj; subst hj; exact h2
  | 3, hj => simp at hj; subst hj; exact h3
 have e2 : (execOp ρ o).run P w = .ok (.value (.agg #[a, b, c, e])) w := by
  unfold execOp
  rw [hop]
  simp only [hx, Instr.loadAt, Instr.sureAddr, Sem.run_bind, Sem.run_pure, Result.andThen_ok, run_loadVar_mid w p k t [a, b, c, e] d hr hu hd hi]
 rw [e2]
 exact h
theorem steps_index4 {P : Program} {ρ : Operand → Value} {o : Oper} {t e : TypeId} {x i : Operand} {w : World} {K : Value → World → Prop} {G m n cap : Nat} (hop : o.op = .indexAddr t x i) (hx : ρ x = .slice (some ⟨G, 0, none⟩) n cap) (hi : ρ i = .int .i64 m) (ht : P.underlying t = some (.slice e)) (hs : (P.info? e).map (·.size) = some 4) (hm : m < n) (h : K (.pointer (some ⟨G, m * 4, none⟩)) w) : stepsTo P ((execOp ρ o).run P w) K := by
 obtain ⟨j, hj, hjs⟩ := Option.map_eq_some_iff.1 hs
 have e2 : (execOp ρ o).run P w = .ok (.value (.pointer (some ⟨G, m * 4, none⟩))) w := by
  unfold execOp
  rw [hop]
  simp [hx, hi, Instr.indexAt, asIntOf, run_underlying ht, sizeOf, typeInfo, hj, hjs, hm, go_sem, Addr.add] <;> omega
 rw [e2]
 exact h
def D11C (b v : World) (g : Nat) (A : Option Addr) (l : List Int) (cap bv : Nat) (VV : Array Value) (gs : Nat) (CS SV0 SV1 : Array Value) (D : Nat → Bool) (γ : Nat → Value) (u : World) : Prop :=
 KG b v g A l cap [] u ∧ CellsAt u bv 45 VV ∧ CellsAt u gs 32 CS ∧
 (D 5 = true → (γ 4 = .pointer (some ⟨gs, 0, none⟩) ∧ γ 5 = .agg SV0) ∨ (γ 4 = .pointer (some ⟨gs, 4, none⟩) ∧ γ 5 = .agg SV1)) ∧
 (D 6 = true → ∃ p, γ 6 = .pointer (some ⟨p, 0, none⟩) ∧ b.heap.size ≤ p ∧ p < u.heap.size ∧ (D 7 = false → CellsAt u p 32 #[.int .i64 0, .slice none 0 0, .int .i64 0, .slice none 0 0])) ∧
 (D 5 = true → D 4 = true) ∧ (D 7 = true → D 5 = true ∧ D 6 = true ∧ ∃ p V, γ 6 = .pointer (some ⟨p, 0, none⟩) ∧ γ 5 = .agg V ∧ CellsAt u p 32 V)
section
variable {b v u u' : World} {g : Nat} {A : Option Addr} {l : List Int} {cap bv gs p : Nat} {VV CS SV0 SV1 : Array Value} {D : Nat → Bool} {γ γ' : Nat → Value}
theorem D11C.loc (ha : ∀ i, D i = true → γ i = γ' i) (h : D11C b v g A l cap bv VV gs CS SV0 SV1 D γ u) : D11C b v g A l cap bv VV gs CS SV0 SV1 D γ' u := by
 obtain ⟨h1, h2, h3, h4, h5, h6, h7⟩ := h
 refine ⟨h1, h2, h3, fun e => ?_, fun e => ?_, h6, fun e => ?_⟩
 ·rw [← ha 5 e, ← ha 4 (h6 e)]; exact h4 e
 ·rw [← ha 6 e]; exact h5 e
 ·obtain ⟨a, c, p, V, q⟩ := h7 e
  rw [← ha 5 a, ← ha 6 c]; exact ⟨a, c, p, V, q⟩
theorem D11C.start (hs : St v g A l cap b) (hb : CellsAt b bv 45 VV) (hc : CellsAt b gs 32 CS) : D11C b v g A l cap bv VV gs CS SV0 SV1 (fun _ => false) γ b.drew :=
 ⟨(KG.start hs).drew, hb.drew, hc.drew, fun e => (by cases e), fun e => (by cases e), fun e => (by cases e), fun e => (by cases e)⟩
theorem D11C.draw (h : D11C b v g A l cap bv VV gs CS SV0 SV1 D γ u) (hlb : g ≠ bv) (hlg : g ≠ gs) (hs : St v g A l cap u') (hg : u.grownBy u' (some g)) {x : Value} : D11C b v g A l cap bv VV gs CS SV0 SV1 (setD D 3) (setG γ 3 x) u' := by
 obtain ⟨h1, h2, h3, h4, h5, h6, h7⟩ := h
 have hgb := h1.2.2.1
 refine ⟨h1.step hs hg, h2.grown hg (by intro e; injection e with e; exact hlb e.symm), h3.grown hg (by intro e; injection e with e; exact hlg e.symm), fun e => ?_, fun e => ?_, fun e => ?_, fun e => ?_⟩
 ·rw [setD_ne (by omega)] at e; rw [setG_ne (by omega), setG_ne (by omega)]; exact h4 e
 ·rw [setD_ne (by omega)] at e
  obtain ⟨p, e1, e2, e3, e4⟩ := h5 e
  rw [setG_ne (by omega), setD_ne (by omega)]
  exact ⟨p, e1, e2, Nat.lt_of_lt_of_le e3 hg.size, fun e => (e4 e).grown hg (by intro e; injection e; omega)⟩
 ·rw [setD_ne (by omega)] at e; rw [setD_ne (by omega)]; exact h6 e
 ·rw [setD_ne (by omega)] at e
  obtain ⟨a, c, p, V, e1, e2, e3⟩ := h7 e
  obtain ⟨q, e4, e5, -, -⟩ := h5 c
  obtain rfl : p = q := by rw [e1] at e4; simpa using e4
  rw [setD_ne (by omega), setD_ne (by omega), setG_ne (by omega), setG_ne (by omega)]
  exact ⟨a, c, p, V, e1, e2, e3.grown hg (by intro e; injection e; omega)⟩
theorem D11C.idx (h : D11C b v g A l cap bv VV gs CS SV0 SV1 D γ u) (hD : D 4 = false) {x : Value} : D11C b v g A l cap bv VV gs CS SV0 SV1 (setD D 4) (setG γ 4 x) u := by
 obtain ⟨h1, h2, h3, h4, h5, h6, h7⟩ := h
 refine ⟨h1, h2, h3, fun e => ?_, fun e => ?_, fun e => ?_, fun e => ?_⟩
 ·rw [setD_ne (by omega)] at e; rw [h6 e] at hD; cases hD
 ·rw [setD_ne (by omega)] at e; rw [setG_ne (by omega), setD_ne (by omega)]; exact h5 e
 ·exact setD_self
 ·rw [setD_ne (by omega)] at e; rw [setD_ne (by omega), setD_ne (by omega), setG_ne (by omega), setG_ne (by omega)]; exact h7 e
theorem D11C.load (h : D11C b v g A l cap bv VV gs CS SV0 SV1 D γ u) (hD : D 5 = false) (h3 : D 4 = true) {x : Value} (hx : (γ 4 = .pointer (some ⟨gs, 0, none⟩) ∧ x = .agg SV0) ∨ (γ 4 = .pointer (some ⟨gs, 4, none⟩) ∧ x = .agg SV1)) : D11C b v g A l cap bv VV gs CS SV0 SV1 (setD D 5) (setG γ 5 x) u := by
 obtain ⟨h1, h2, h3', h4, h5, h6, h7⟩ := h
 refine ⟨h1, h2, h3', fun e => ?_, fun e => ?_, fun e => ?_, fun e => ?_⟩
 ·rw [setG_ne (by omega), setG_self]; exact hx
 ·rw [setD_ne (by omega)] at e; rw [setG_ne (by omega), setD_ne (by omega)]; exact h5 e
 ·rw [setD_ne (by omega)]; exact h3
 ·rw [setD_ne (by omega)] at e; rw [(h7 e).1] at hD; cases hD
theorem D11C.made (h : D11C b v g A l cap bv VV gs CS SV0 SV1 D γ u) (hD : D 6 = false) : D11C b v g A l cap bv VV gs CS SV0 SV1 (setD D 6) (setG γ 6 (.pointer (some ⟨u.heap.size, 0, none⟩))) (u.alloc (.cells #[.int .i64 0, .slice none 0 0, .int .i64 0, .slice none 0 0] 32)) := by
 obtain ⟨h1, h2, h3, h4, h5, h6, h7⟩ := h
 have hb := box_below u (.cells #[.int .i64 0, .slice none 0 0, .int .i64 0, .slice none 0 0] 32)
 refine ⟨h1.below hb, h2.below hb h2.lt, h3.below hb h3.lt, fun e => ?_, fun e => ?_, fun e => ?_, fun e => ?_⟩
 ·rw [setD_ne (by omega)] at e; rw [setG_ne (by omega), setG_ne (by omega)]; exact h4 e
 ·exact ⟨u.heap.size, setG_self, h1.1.size, by simp, fun _ => CellsAt.new u _ _⟩
 ·rw [setD_ne (by omega)] at e; rw [setD_ne (by omega)]; exact h6 e
 ·rw [setD_ne (by omega)] at e; rw [(h7 e).2.1] at hD; cases hD
theorem D11C.store (h : D11C b v g A l cap bv VV gs CS SV0 SV1 D γ u) (d5 : D 5 = true) (d6 : D 6 = true) (hlb : bv < b.heap.size) (hlg : gs < b.heap.size) {V : Array Value} {x : Value} (hp : γ 6 = .pointer (some ⟨p, 0, none⟩)) (he : γ 5 = .agg V) (hpb : b.heap.size ≤ p) (hc : CellsAt u' p 32 V) (hg : u.grownBy u' (some p)) :
    D11C b v g A l cap bv VV gs CS SV0 SV1 (setD D 7) (setG γ 7 x) u' := by
 obtain ⟨h1, h2, h3, h4, h5, h6, h7⟩ := h
 have hgb := h1.2.2.1
 refine ⟨⟨gb_put h1.1 hg hpb, h1.2.1.off hg (by omega), hgb, fun x hx => by cases hx⟩, h2.grown hg (by intro e; injection e; omega), h3.grown hg (by intro e; injection e; omega), fun e => ?_, fun e => ?_, fun e => ?_, fun e => ?_⟩
 ·rw [setG_ne (by omega), setG_ne (by omega)]; exact h4 d5
 ·rw [setG_ne (by omega)]
  obtain ⟨q, e1, e2, e3, -⟩ := h5 d6
  exact ⟨q, e1, e2, Nat.lt_of_lt_of_le e3 hg.size, fun e => by rw [setD_self] at e; cases e⟩
 ·rw [setD_ne (by omega)]; exact h6 d5
 ·rw [setD_ne (by omega), setD_ne (by omega), setG_ne (by omega), setG_ne (by omega)]
  exact ⟨d5, d6, p, V, hp, he, hc⟩
end
set_option maxRecDepth 20000 in
set_option maxHeartbeats 16000000 in
theorem drawSlotOk_calls (A : Option Addr) (l : List Int) (cap : Nat) (w : World) (hn : l.length ≤ 4096) (hA : Ints w .u8 w.heap.size A l) :
    Calls Tryz.prog 5 #[.slice A l.length cap] w (SloD w) := by
 have HN := Lib.hid (show l.length ≤ maxLen by unfold maxLen; omega)
 have HM := Lib.hid hn
 have K0 := Lib.hid (show Kept w [(w.heap.size + 1, 32, #[.int .i64 0, .slice none 0 0, .int .i64 0, .slice none 0 0]), (w.heap.size, 26, #[.int .i64 0, .slice none 0 0])] _ from ((Kept.refl w).put1 _ _ #[.int .i64 0, .slice none 0 0] rfl).put1 _ _ #[.int .i64 0, .slice none 0 0, .int .i64 0, .slice none 0 0] (by simp))
 have HA := Lib.hid (fun (u : World) (hb : Below w.heap.size w u) => (hA.below hb (Nat.le_refl _)).more hb.size)
 have Z0 := Lib.hid (show ((w.alloc (.cells #[.int .i64 0, .slice none 0 0] 26)).alloc (.cells #[.int .i64 0, .slice none 0 0, .int .i64 0, .slice none 0 0] 32)).heap.size = w.heap.size + 1 + 1 by simp)
 have hnl : (l.length : Int) ≤ 4096 := by omega
 clear hn hA
 go_enter Tryz.func5, Tryz.ntmps5
 go_upto_region 1 with fail
 have k0 := K0.out
 have z0 := Z0.out
 clear K0 Z0
 generalize World.alloc _ _ = w0 at k0 z0 ⊢
 have HZ := Lib.hid z0
 clear z0
 go_wp2_with fail
 refine (new_calls A l cap _ HN.out (HA.out _ k0.1)).mono ?_; rintro e w1 ⟨rfl, b1, c1⟩
 rw [HZ.out]
 rw [HZ.out] at c1
 have s1 : St w0 (w.heap.size + 1 + 1) A l cap w1 := ⟨by rw [← HZ.out]; exact b1, c1⟩
 have k1 := k0.below b1
 have H1 := Lib.hid (show KB w w0 (w.heap.size + 1 + 1) A l cap [(w.heap.size + 1, 32, #[.int .i64 0, .slice none 0 0, .int .i64 0, .slice none 0 0]), (w.heap.size, 26, #[.int .i64 0, .slice none 0 0])] w1 from ⟨k1.1, s1, by omega, fun x hx => ⟨⟨(k1.2 x hx).1, by simp at hx; rcases hx with rfl | rfl <;> (simp only []; omega)⟩, (k1.2 x hx).2⟩⟩)
 clear b1 c1 s1 k1 k0 HA
 have z1 : w.heap.size + 1 + 1 < w1.heap.size := H1.out.2.1.2.lt
 go_wp2_with fail
 refine (draw12_calls w0 (w.heap.size + 1 + 1) A l cap w1 HM.out H1.out.2.1).mono ?_; rintro e w2 ⟨y, cs, rfl, hy, hv, s2, g2⟩
 have h2 := H1.out.step s2 g2
 obtain ⟨Q, c, B9, d9, C9, e9, gs, A0, c0, C0, d0, A1, c1, C1, d1, hve, hq, -, -, hgs, hcs, ht0, hm0, ht1, hm1, hpw⟩ := hv
 injection hve with hve
 subst hve
 simp only [vX]
 have hl2 := g2.size
 have hgl : gs < w2.heap.size := hcs.lt
 obtain ⟨_, _, eq9, _, hcq⟩ := hq.form
 injection eq9 with eq1 eq2 eq3
 subst eq1 eq3
 have hqb : RowB w2 w1.heap.size w2.heap.size Q y.counts c := RowB.of ⟨hq, fun i hi => by have := hy.1.2.2.1 i hi; omega⟩
 have h45 : y.counts.length ≤ 5 := by have := hy.1.2.1.2; omega
 obtain ⟨hp, -, -, -, i0, i1⟩ := hy
 have m24 : ∀ s : SlN, s.Inv y.key y.counts → s.cells.length ≤ 24 := fun s hs => by
  rcases hs.1 with h | h
  ·rw [h]; simp
  ·exact (cellsOk.len hp h).2
 have F0 := Lib.hid (show I64 y.s0.count ∧ TrusI y.s0.trusts ∧ y.s0.trusts.length ≤ 4 ∧ y.s0.cells.length ≤ 24 from ⟨i0.2.2.2.1, i0.2.2.1, i0.2.1, m24 _ i0⟩)
 have F1 := Lib.hid (show I64 y.s1.count ∧ TrusI y.s1.trusts ∧ y.s1.trusts.length ≤ 4 ∧ y.s1.cells.length ≤ 24 from ⟨i1.2.2.2.1, i1.2.2.1, i1.2.1, m24 _ i1⟩)
 clear hp i0 i1 m24
 generalize y.counts = zs at hqb h45 hcq ⊢
 generalize y.key = key
 generalize y.trusts.length = n2
 generalize y.cells.length = n3
 generalize y.count = yc
 generalize y.s0 = sl0 at hcs ht0 hm0 F0
 generalize y.s1 = sl1 at hcs ht1 hm1 F1
 have HC := Lib.hid hcq
 have h3 := h2.put1 w2.heap.size 45 #[.int .i64 key, .slice Q zs.length c, .slice B9 n2 d9, .slice C9 n3 e9, .slice (some ⟨gs, 0, none⟩) 2 2, .int .i64 yc] rfl
 have bx := box_below w2 (.cells #[.int .i64 key, .slice Q zs.length c, .slice B9 n2 d9, .slice C9 n3 e9, .slice (some ⟨gs, 0, none⟩) 2 2, .int .i64 yc] 45)
 have q3 := hqb.below bx
 have C3 := Lib.hid (hcs.below bx hgl)
 have R0 := Lib.hid (show TrRow _ w1.heap.size (.slice A0 sl0.trusts.length c0) sl0.trusts ∧ ClRow _ w1.heap.size (.slice C0 sl0.cells.length d0) sl0.cells ∧ TrRow _ w1.heap.size (.slice A1 sl1.trusts.length c1) sl1.trusts ∧ ClRow _ w1.heap.size (.slice C1 sl1.cells.length d1) sl1.cells from ⟨ht0.below bx, hm0.below bx, ht1.below bx, hm1.below bx⟩)
 have O0 := Lib.hid (show (∀ k, (Value.slice A0 sl0.trusts.length c0).ownBlock = some k → k < w2.heap.size) ∧ (∀ k, (Value.slice C0 sl0.cells.length d0).ownBlock = some k → k < w2.heap.size) ∧ (∀ k, (Value.slice A1 sl1.trusts.length c1).ownBlock = some k → k < w2.heap.size) ∧ (∀ k, (Value.slice C1 sl1.cells.length d1).ownBlock = some k → k < w2.heap.size) from ⟨fun k e => (SRow.lt ht0 e).2, fun k e => (SRow.lt hm0 e).2, fun k e => (SRow.lt ht1 e).2, fun k e => (SRow.lt hm1 e).2⟩)
 have hz3 : (w2.alloc (.cells #[.int .i64 key, .slice Q zs.length c, .slice B9 n2 d9, .slice C9 n3 e9, .slice (some ⟨gs, 0, none⟩) 2 2, .int .i64 yc] 45)).heap.size = w2.heap.size + 1 := by simp
 clear hq hcs ht0 hm0 ht1 hm1 hpw hqb hcq h2 H1 g2 s2 bx
 go_upto_region 3 with fail
 generalize World.alloc _ _ = w3 at h3 q3 C3 R0 hz3 ⊢
 generalize w1.heap.size = lo at q3 R0 z1 hl2 hgs
 generalize w2.heap.size = bv at h3 q3 O0 hz3 hl2 hgl ⊢
 have H3 := Lib.hid h3
 have Q3 := Lib.hid q3
 have Z3 := Lib.hid hz3
 have Z1 := Lib.hid (show w.heap.size + 1 + 1 < lo ∧ lo ≤ bv ∧ gs < bv ∧ lo ≤ gs from ⟨z1, hl2, hgl, hgs⟩)
 have CB := Lib.hid (h3.at_ (p := bv) (t := 45) (cs := #[.int .i64 key, .slice Q zs.length c, .slice B9 n2 d9, .slice C9 n3 e9, .slice (some ⟨gs, 0, none⟩) 2 2, .int .i64 yc]) (by simp))
 clear h3 q3 hz3 z1 hl2 hgl hgs
 refine wp_region_free [false, false, false, true, true, true, true, true] (ShL [(3, fun v => ∃ k : Nat, k < 2 ∧ v = .int .i64 k), (4, fun v => ∃ o : Nat, (o = 0 ∨ o = 4) ∧ v = .pointer (some ⟨gs, o, none⟩)), (5, fun v => ∃ (a : Int) (E : Option Addr) (n1 n2 : Nat) (m : Int) (F : Option Addr) (m1 m2 : Nat), v = .agg #[.int .i64 a, .slice E n1 n2, .int .i64 m, .slice F m1 m2]), (6, fun v => ∃ p : Nat, v = .pointer (some ⟨p, 0, none⟩))]) (fun D γ u => D11C w3 w0 (w.heap.size + 1 + 1) A l cap bv #[.int .i64 key, .slice Q zs.length c, .slice B9 n2 d9, .slice C9 n3 e9, .slice (some ⟨gs, 0, none⟩) 2 2, .int .i64 yc] gs #[.int .i64 sl0.count, .slice A0 sl0.trusts.length c0, .int .i64 sl0.mac, .slice C0 sl0.cells.length d0, .int .i64 sl1.count, .slice A1 sl1.trusts.length c1, .int .i64 sl1.mac, .slice C1 sl1.cells.length d1] #[.int .i64 sl0.count, .slice A0 sl0.trusts.length c0, .int .i64 sl0.mac, .slice C0 sl0.cells.length d0] #[.int .i64 sl1.count, .slice A1 sl1.trusts.length c1, .int .i64 sl1.mac, .slice C1 sl1.cells.length d1] D γ u) (by kernel_rfl) (by kernel_rfl) (fun γ => by kernel_rfl) (fun D γ γ' w ha h => h.loc ha) (ShL.inh _ ?inh) (fun γ => D11C.start H3.out.2.1 CB.out C3.out) (fun γ hγ => ?_)
 case inh =>
  intro y hy
  simp only [List.mem_cons, List.not_mem_nil, or_false] at hy
  rcases hy with rfl | rfl | rfl | rfl
  ·exact ⟨_, 0, by omega, rfl⟩
  ·exact ⟨_, 0, .inl rfl, rfl⟩
  ·exact ⟨_, 0, none, 0, 0, 0, none, 0, 0, rfl⟩
  ·exact ⟨_, 0, rfl⟩
 obtain ⟨k, hk2, g3⟩ : ∃ k : Nat, k < 2 ∧ γ 3 = .int .i64 k := hγ 3 rfl
 obtain ⟨o4, ho4, g4⟩ : ∃ o : Nat, (o = 0 ∨ o = 4) ∧ γ 4 = .pointer (some ⟨gs, o, none⟩) := hγ 4 rfl
 obtain ⟨sa, sE, sn, sn2, sm, sF, sm1, sm2, g5⟩ : ∃ (a : Int) (E : Option Addr) (n1 n2 : Nat) (m : Int) (F : Option Addr) (m1 m2 : Nat), γ 5 = .agg #[.int .i64 a, .slice E n1 n2, .int .i64 m, .slice F m1 m2] := hγ 5 rfl
 obtain ⟨p, g6⟩ : ∃ p : Nat, γ 6 = .pointer (some ⟨p, 0, none⟩) := hγ 6 rfl
 have g7 : γ 7 = undef := hγ 7 rfl
 have hkl : (k : Int) < 2 := by omega
 have hk0 : (0 : Int) ≤ k := by omega
 apply Exists.intro
 refine ⟨fun D => ?_, ?_, ?_⟩
 ·simp only [hushL, cond_true, cond_false, Nat.reduceAdd, g3, g4, g5, g6, g7]
  iterate 8 (first
   | go_big_quiet_skip
   | (go_big_quiet_want
      go_big_quiet_op
      first
       | go_big_quiet_on
       | (apply Exists.intro
          refine ⟨fun u hu => ?_, ?_⟩
          ·first
             | with_reducible rfl
             | (have kc0 : ∀ i, u.cell? ⟨bv, i, none⟩ = _ := hu.2.1.cell; go_simp; first | done | with_reducible rfl)
          go_big_quiet_on)))
  exact wpQuiet_nil rfl
 ·simp only [freeOk, Nat.reduceAdd]
  refine ⟨fun D u hD hd hu => ?_, fun D u hD hd hu => ?_, fun D u hD hd hu => ?_, fun D u hD hd hu => ?_, fun D u hD hd hu => ?_, trivial⟩
  ·exact steps_call ((below_st w0 (w.heap.size + 1 + 1) A l cap 2 u HN.out hu.1.2.1 (by omega)).mono fun e w' ⟨x, he, hx, sx, gx⟩ => ⟨_, he, by obtain ⟨q, rfl⟩ := Int.eq_ofNat_of_zero_le hx.1; exact ⟨q, by have := hx.2; omega, rfl⟩, hu.draw (by have := Z1.out; omega) (by have := Z1.out; omega) sx gx⟩) rfl rfl rfl rfl (by kernel_rfl)
  ·refine steps_index4 (G := gs) (m := k) (n := 2) rfl rfl rfl Tryz.underlying35 (by kernel_rfl) hk2 ⟨⟨_, ?_, rfl⟩, hu.idx hD⟩
   omega
  ·have d4 := hd { on := 4, ground := Ground.data } (by simp) rfl rfl
   have hc := hu.2.2.1.cell
   rcases ho4 with rfl | rfl
   ·exact steps_load4 (hc 0) (hc 1) (hc 2) (hc 3) rfl rfl Tryz.underlying32 rfl (by kernel_rfl) ⟨⟨_, _, _, _, _, _, _, _, rfl⟩, hu.load hD d4 (.inl ⟨g4, rfl⟩)⟩
   ·exact steps_load4 (hc 4) (hc 5) (hc 6) (hc 7) rfl rfl Tryz.underlying32 rfl (by kernel_rfl) ⟨⟨_, _, _, _, _, _, _, _, rfl⟩, hu.load hD d4 (.inr ⟨g4, rfl⟩)⟩
  ·exact steps_alloc (cs := #[.int .i64 0, .slice none 0 0, .int .i64 0, .slice none 0 0]) rfl (by kernel_rfl) ⟨⟨_, rfl⟩, hu.made hD⟩
  ·have d6 := hd { on := 6, ground := Ground.data } (by simp) rfl rfl
   have d5 := hd { on := 5, ground := Ground.data } (by simp) rfl rfl
   obtain ⟨q, e1, e2, e3, e4⟩ := hu.2.2.2.2.1 d6
   obtain rfl : p = q := by rw [g6] at e1; simpa using e1
   exact steps_store (e4 hD) rfl rfl rfl (by kernel_rfl) (by simp) (by simp [Value.oneCell']) (fun w' hc hg => ⟨rfl, hu.store d5 d6 (by have := Z3.out; omega) (by have := Z3.out; have := Z1.out; omega) g6 g5 e2 hc hg⟩)
 ·intro D uf hD hu
  have hb := H3.out.step hu.1.2.1 hu.1.1
  obtain ⟨-, -, p', V, e1, e2, e3⟩ := hu.2.2.2.2.2.2 (hD 7 (by simp) rfl)
  obtain rfl : p = p' := by rw [g6] at e1; simpa using e1
  obtain ⟨p'', e4, e5, -, -⟩ := hu.2.2.2.2.1 (hD 6 (by simp) rfl)
  obtain rfl : p = p'' := by rw [g6] at e4; simpa using e4
  have hT : ∃ (cnt : Int) (B : Option Addr) (L : List Tru) (tc : Nat) (mac : Int) (C : Option Addr) (M : List Ce) (cc : Nat), M.length ≤ 24 ∧ T13 w w0 (w.heap.size + 1 + 1) A l cap lo bv p key Q zs c (.slice B9 n2 d9) (.slice C9 n3 e9) (.slice (some ⟨gs, 0, none⟩) 2 2) (.int .i64 yc) cnt B L tc mac C M cc uf := by
   have hgr := hu.1.1
   have z3 := Z3.out
   have z1 := Z1.out
   have lw0 := H3.out.1.size
   have hq := Q3.out.grown hgr (.inl (by omega))
   rcases hu.2.2.2.1 (hD 5 (by simp) rfl) with ⟨-, e6⟩ | ⟨-, e6⟩
   ·rw [e6] at e2
    injection e2 with e2
    subst e2
    obtain ⟨f0, f1, f2, f3⟩ := F0.out
    exact ⟨sl0.count, A0, sl0.trusts, c0, sl0.mac, C0, sl0.cells, d0, f3, hb.more (by omega) (by omega) e3, hq, ⟨by omega, by omega, by omega, by omega⟩, h45, HC.out, f0, f1, f2, by omega, SRow.grown R0.out.1 hgr (by omega), SRow.grown R0.out.2.1 hgr (by omega), O0.out.1, fun k e => ⟨by have := O0.out.2.1 k e; omega, by have := O0.out.2.1 k e; omega⟩⟩
   ·rw [e6] at e2
    injection e2 with e2
    subst e2
    obtain ⟨f0, f1, f2, f3⟩ := F1.out
    exact ⟨sl1.count, A1, sl1.trusts, c1, sl1.mac, C1, sl1.cells, d1, f3, hb.more (by omega) (by omega) e3, hq, ⟨by omega, by omega, by omega, by omega⟩, h45, HC.out, f0, f1, f2, by omega, SRow.grown R0.out.2.2.1 hgr (by omega), SRow.grown R0.out.2.2.2 hgr (by omega), O0.out.2.2.1, fun k e => ⟨by have := O0.out.2.2.2 k e; omega, by have := O0.out.2.2.2 k e; omega⟩⟩
  obtain ⟨cnt, B, L, tc, mac, C, M, cc, h24, ht⟩ := hT
  have H4 := Lib.hid ht
  clear ht hb e1 e2 e3 e4 e5 hu hD hγ H3 Q3 R0 O0 CB C3 F0 F1 Z3 HC h45
  clear g3 g4 g5 g6 g7 ho4 hk2 hkl hk0
  go_wp2_with fail
  refine (once_st w0 (w.heap.size + 1 + 1) A l cap 3 uf HN.out H4.out.1.2.1 (by omega)).mono ?_; rintro e w6 ⟨bb, rfl, s6, g6⟩
  have H6 := Lib.hid (H4.out.step s6 g6)
  clear s6 g6 H4
  rcases bb with _ | _
  case' false =>
   have H9 : RowKit.Hid (∃ (cnt' : Int) (B' : Option Addr) (L' : List Tru) (tc' : Nat) (mac' : Int) (C' : Option Addr) (M' : List Ce) (cc' : Nat), T13 w w0 (w.heap.size + 1 + 1) A l cap lo bv p key Q zs c (.slice B9 n2 d9) (.slice C9 n3 e9) (.slice (some ⟨gs, 0, none⟩) 2 2) (.int .i64 yc) cnt' B' L' tc' mac' C' M' cc' w6) := Lib.hid ⟨_, _, _, _, _, _, _, _, H6.out⟩
   clear H6
   go_upto_region 15 with fail
  case' true =>
   go_wp2_with fail
   refine (below_st w0 (w.heap.size + 1 + 1) A l cap 4 w6 HN.out H6.out.1.2.1 (by omega)).mono ?_; rintro e w7 ⟨n, rfl, ⟨n0, n1⟩, s7, g7⟩
   have H7 := Lib.hid (H6.out.step s7 g7)
   clear s7 g7 H6
   have hn7 : n = 0 ∨ n = 1 ∨ n = 2 ∨ n = 3 := by omega
   clear n0 n1
   rcases hn7 with rfl | rfl | rfl | rfl
  case' inl =>
   obtain ⟨kc0, kf0, -⟩ := H7.out.1.rd
   have H9 : RowKit.Hid (∃ (cnt' : Int) (B' : Option Addr) (L' : List Tru) (tc' : Nat) (mac' : Int) (C' : Option Addr) (M' : List Ce) (cc' : Nat), T13 w w0 (w.heap.size + 1 + 1) A l cap lo bv p key Q zs c (.slice B9 n2 d9) (.slice C9 n3 e9) (.slice (some ⟨gs, 0, none⟩) 2 2) (.int .i64 yc) cnt' B' L' tc' mac' C' M' cc' (w7.setCell ⟨p, 2, none⟩ (.int .i64 (wrap64 (mac + 1))))) := Lib.hid ⟨_, _, _, _, _, _, _, _, H7.out.c2⟩
   go_upto_region 15 with fail
   clear kc0 kf0 H7
   generalize World.setCell _ _ _ = w9 at H9 ⊢
  case' inr.inl =>
   obtain ⟨kc0, kf0, -⟩ := H7.out.1.rd
   obtain ⟨ic, hci, hcz0, hcz1, hcz2⟩ := info_parts2
   have ha := H7.out.below (box_below w7 (.cells #[.int .i64 0, .int .i64 0] 55))
   have H8 := Lib.hid ha
   have hsz : (w7.alloc (.cells #[.int .i64 0, .int .i64 0] 55)).heap.size = w7.heap.size + 1 := by simp
   have hlo : lo ≤ w7.heap.size := by have h1 := H7.out.1.lt (x := (p, 32, #[.int .i64 cnt, .slice B L.length tc, .int .i64 mac, .slice C M.length cc])) (by simp); have h2 := H7.out.2.2.1; simp only [] at h1; omega
   have hel := heap_alloc_new w7 (.cells #[.int .i64 0, .int .i64 0] 55)
   obtain ⟨mc0, mf0, -⟩ := ha.1.rd
   clear ha
   go_wp2_with (at_builtin; refine wpList_append_lies _ rfl _ _ 30 rfl lo 55 ic (.agg #[.int .i64 0, .int .i64 0]) 2 16 Tryz.underlying30 hci hcz0 hcz1 hcz2 rfl (by omega) (.slice C M.length cc) M.length (flatS ceV M) rfl H8.out.2.2.2.2.2.2.2.2.2.2.1 ⟨w7.heap.size, 0, none⟩ 1 1 [.int .i64 0, .int .i64 0] rfl rfl (World.news_of_block (cs := #[.int .i64 0, .int .i64 0]) (t := 55) (fr := (0, 0)) hel) (by simp [Value.oneCell']) (by omega) ?n1 ?n2 ?n3 (w7.heap.size + 1) ?n4 ?_)
   case n1 => unfold maxLen; omega
   case n2 => omega
   case n3 => rw [hsz]; omega
   case n4 => exact hsz
   intro gg cg wc hown hgrow hat hlt2
   have hG := H8.out.grow hgrow (show ClRow wc lo (.slice (some ⟨gg, 0, none⟩) (M ++ [(0, 0)]).length cg) (M ++ [(0, 0)]) from by
    unfold ClRow SRow
    rw [flatS_snoc, List.length_append]
    exact hown) (by rw [hsz]; exact hat) h24
   obtain ⟨⟨nc0, nf0⟩, hT⟩ := hG
   have H9 : RowKit.Hid (∃ (cnt' : Int) (B' : Option Addr) (L' : List Tru) (tc' : Nat) (mac' : Int) (C' : Option Addr) (M' : List Ce) (cc' : Nat), T13 w w0 (w.heap.size + 1 + 1) A l cap lo bv p key Q zs c (.slice B9 n2 d9) (.slice C9 n3 e9) (.slice (some ⟨gs, 0, none⟩) 2 2) (.int .i64 yc) cnt' B' L' tc' mac' C' M' cc' (wc.setCell ⟨p, 3, none⟩ (.slice (some ⟨gg, 0, none⟩) (M ++ [(0, 0)]).length cg))) := Lib.hid ⟨_, _, _, _, _, _, _, _, hT⟩
   rw [List.length_append, List.length_singleton] at H9
   clear hown hgrow hat hlt2 hT mc0 mf0 hel hci hcz0 hcz1 hcz2 hlo hsz kc0 kf0 H8 H7
   go_upto_region 15 with fail
   clear nc0 nf0
   generalize World.setCell _ _ _ = w9 at H9 ⊢
  case' inr.inr.inl =>
   by_cases hp : 0 < M.length
   ·have hp' : (0 : Int) < M.length := by omega
    obtain ⟨kc0, kf0, -⟩ := H7.out.1.rd
    go_upto_region 12 with fail
    obtain ⟨gC, rfl, -, -, -⟩ := H7.out.cel hp
    go_region_with (go_at_call 20; refine (num_st w0 (w.heap.size + 1 + 1) A l cap 10006 _ HN.out H7.out.drew.1.2.1 (by omega) (by omega)).mono ?_; rintro e wx ⟨x, rfl, hx, sx, gx⟩; have H8 := Lib.hid (H7.out.drew.step sx gx); obtain ⟨mc0, mf0, -⟩ := H8.out.1.rd; obtain ⟨gD, eD, hc1, hf1, hset⟩ := H8.out.cel hp; injection eD with eD; injection eD with eD; subst eD; have HS := Lib.hid hset; clear hset hx sx gx)
    all_goals
     have H9 : RowKit.Hid (∃ (cnt' : Int) (B' : Option Addr) (L' : List Tru) (tc' : Nat) (mac' : Int) (C' : Option Addr) (M' : List Ce) (cc' : Nat), T13 w w0 (w.heap.size + 1 + 1) A l cap lo bv p key Q zs c (.slice B9 n2 d9) (.slice C9 n3 e9) (.slice (some ⟨gs, 0, none⟩) 2 2) (.int .i64 yc) cnt' B' L' tc' mac' C' M' cc' (wx.setCell ⟨gC, 1, none⟩ (.int .i64 x))) := Lib.hid ⟨_, _, _, _, _, _, _, _, HS.out x⟩
     go_upto_region 15 with fail
     clear kc0 kf0 mc0 mf0 hc1 hf1 HS H7 H8 hp'
     generalize World.setCell _ _ _ = w9 at H9 ⊢
     obtain ⟨cnt', B', L', tc', mac', C', M', cc', h9⟩ := H9.out
     clear H9
     have H9 := Lib.hid h9
     obtain ⟨kc0, kf0, kc1, kf1, kc2, kf2, kc3, kf3, -⟩ := h9.1.rd
     obtain ⟨q1, q2, q3, q4⟩ := h9.2.2.1
     obtain ⟨ne0, ne1, ne2, ne3, ne4, ne5, ne6, ne7⟩ : ¬ w.heap.size = bv ∧ ¬ bv = w.heap.size ∧ ¬ w.heap.size + 1 = bv ∧ ¬ bv = w.heap.size + 1 ∧ ¬ w.heap.size = p ∧ ¬ p = w.heap.size ∧ ¬ w.heap.size + 1 = p ∧ ¬ p = w.heap.size + 1 := by omega
     clear q1 q2 q3 q4 h9
     go_region
     go_wp2_with fail
     obtain ⟨wz, ez, ⟨d0, d1⟩, hz⟩ := H9.out.drew.end_
     simp only [World.setCell_drew] at ez
     rw [ez]
     exact bodyPost_ret (v := .tuple #[.agg _, .agg _]) (by simp [results, Tryz.results5, go_sem, d0, d1]) rfl hz
   ·have hp' : ¬ (0 : Int) < M.length := by omega
    obtain ⟨kc0, kf0, -⟩ := H7.out.1.rd
    have H9 : RowKit.Hid (∃ (cnt' : Int) (B' : Option Addr) (L' : List Tru) (tc' : Nat) (mac' : Int) (C' : Option Addr) (M' : List Ce) (cc' : Nat), T13 w w0 (w.heap.size + 1 + 1) A l cap lo bv p key Q zs c (.slice B9 n2 d9) (.slice C9 n3 e9) (.slice (some ⟨gs, 0, none⟩) 2 2) (.int .i64 yc) cnt' B' L' tc' mac' C' M' cc' w7) := Lib.hid ⟨_, _, _, _, _, _, _, _, H7.out⟩
    go_upto_region 15 with fail
    clear kc0 kf0 H7 hp' hp
    obtain ⟨cnt', B', L', tc', mac', C', M', cc', h9⟩ := H9.out
    clear H9
    have H9 := Lib.hid h9
    obtain ⟨kc0, kf0, kc1, kf1, kc2, kf2, kc3, kf3, -⟩ := h9.1.rd
    obtain ⟨q1, q2, q3, q4⟩ := h9.2.2.1
    obtain ⟨ne0, ne1, ne2, ne3, ne4, ne5, ne6, ne7⟩ : ¬ w.heap.size = bv ∧ ¬ bv = w.heap.size ∧ ¬ w.heap.size + 1 = bv ∧ ¬ bv = w.heap.size + 1 ∧ ¬ w.heap.size = p ∧ ¬ p = w.heap.size ∧ ¬ w.heap.size + 1 = p ∧ ¬ p = w.heap.size + 1 := by omega
    clear q1 q2 q3 q4 h9
    go_region
    go_wp2_with fail
    obtain ⟨wz, ez, ⟨d0, d1⟩, hz⟩ := H9.out.drew.end_
    simp only [World.setCell_drew] at ez
    rw [ez]
    exact bodyPost_ret (v := .tuple #[.agg _, .agg _]) (by simp [results, Tryz.results5, go_sem, d0, d1]) rfl hz
  case' inr.inr.inr =>
   obtain ⟨kc0, kf0, -⟩ := H7.out.1.rd
   have H9 : RowKit.Hid (∃ (cnt' : Int) (B' : Option Addr) (L' : List Tru) (tc' : Nat) (mac' : Int) (C' : Option Addr) (M' : List Ce) (cc' : Nat), T13 w w0 (w.heap.size + 1 + 1) A l cap lo bv p key Q zs c (.slice B9 n2 d9) (.slice C9 n3 e9) (.slice (some ⟨gs, 0, none⟩) 2 2) (.int .i64 yc) cnt' B' L' tc' mac' C' M' cc' (w7.setCell ⟨p, 0, none⟩ (.int .i64 (wrap64 (cnt + 1))))) := Lib.hid ⟨_, _, _, _, _, _, _, _, H7.out.c0 (i64_w64 _)⟩
   go_upto_region 15 with fail
   clear kc0 kf0 H7
   generalize World.setCell _ _ _ = w9 at H9 ⊢
  all_goals
   obtain ⟨cnt', B', L', tc', mac', C', M', cc', h9⟩ := H9.out
   clear H9
   have H9 := Lib.hid h9
   obtain ⟨kc0, kf0, kc1, kf1, kc2, kf2, kc3, kf3, -⟩ := h9.1.rd
   obtain ⟨q1, q2, q3, q4⟩ := h9.2.2.1
   obtain ⟨ne0, ne1, ne2, ne3, ne4, ne5, ne6, ne7⟩ : ¬ w.heap.size = bv ∧ ¬ bv = w.heap.size ∧ ¬ w.heap.size + 1 = bv ∧ ¬ bv = w.heap.size + 1 ∧ ¬ w.heap.size = p ∧ ¬ p = w.heap.size ∧ ¬ w.heap.size + 1 = p ∧ ¬ p = w.heap.size + 1 := by omega
   clear q1 q2 q3 q4 h9
   go_region
   go_wp2_with fail
   obtain ⟨wz, ez, ⟨d0, d1⟩, hz⟩ := H9.out.drew.end_
   simp only [World.setCell_drew] at ez
   rw [ez]
   exact bodyPost_ret (v := .tuple #[.agg _, .agg _]) (by simp [results, Tryz.results5, go_sem, d0, d1]) rfl hz
end Go.Proofs.YtjbnknccnhdapaaGreat.Mx

import Derived.Test.YtjbnknccnhdapaaGreatG33
import Derived.Test.YtjbnknccnhdapaaGreatG30
import Derived.Test.YtjbnknccnhdapaaGreatG04
import Derived.Test.YtjbnknccnhdapaaGreatG01
import Derived.Test.YtjbnknccnhdapaaGreatG05
namespace Go.Proofs.YtjbnknccnhdapaaGreat.Mx
open Go.ChangeShapes Go.WideShapes Go.ChangeAt Go.RowKit
set_option linter.unusedVariables false
structure SlA where
 s : SlN
 B : Option Addr
 tc : Nat
 C : Option Addr
 cc : Nat
instance : Inhabited SlA := ⟨⟨default, none, 0, none, 0⟩⟩
def slV (x : SlA) : List Value := [.int .i64 x.s.count, .slice x.B x.s.trusts.length x.tc, .int .i64 x.s.mac, .slice x.C x.s.cells.length x.cc]
theorem slV_len (x : SlA) : (slV x).length = 4 := rfl
theorem slV_one (x : SlA) : ∀ v ∈ slV x, v.oneCell' = true := by
 intro v hv
 simp only [slV, List.mem_cons, List.not_mem_nil, or_false] at hv
 rcases hv with rfl | rfl | rfl | rfl <;> rfl
def SlW (u : World) (lo : Nat) (x : SlA) : Prop := x.s.Fits ∧ TrRow u lo (.slice x.B x.s.trusts.length x.tc) x.s.trusts ∧ ClRow u lo (.slice x.C x.s.cells.length x.cc) x.s.cells
theorem SlW.grown {u u' : World} {lo g : Nat} {x : SlA} (h : SlW u lo x) (hg : u.grownBy u' (some g)) (hl : g < lo) : SlW u' lo x := ⟨h.1, SRow.grown h.2.1 hg hl, SRow.grown h.2.2 hg hl⟩
theorem SlW.below {u u' : World} {lo : Nat} {x : SlA} (h : SlW u lo x) (hb : Below u.heap.size u u') : SlW u' lo x := ⟨h.1, SRow.below h.2.1 hb, SRow.below h.2.2 hb⟩
def ChoD (w : World) (e : Ending) (w' : World) : Prop :=
 ∃ (key : Int) (Q : Option Addr) (zs : List Int) (c : Nat) (D : Option Addr) (S : List SlN) (cp : Nat) (n : Int), e = .returned (.tuple #[.agg #[.int .i64 key, .slice Q zs.length c], .slice D S.length cp, .int .i64 n]) ∧ I64 n ∧ zs.length ≤ 5 ∧ zs.length ≤ c ∧ S.length ≤ 3 ∧ S.length ≤ cp ∧ (∀ i, i < S.length → (S.getD i default).Fits) ∧ Ints w' .i64 w'.heap.size Q zs ∧ Slots w' w'.heap.size D S ∧ Below w.heap.size w w'
def T14 (w v : World) (g : Nat) (A : Option Addr) (l : List Int) (cap lo bv : Nat) (key : Int) (Q : Option Addr) (zs : List Int) (c : Nat) (x2 x3 x4 : Value) (yc : Int) (X : List SlA) (gl cp : Nat) (u : World) : Prop :=
 KB w v g A l cap [(bv, 45, #[.int .i64 key, .slice Q zs.length c, x2, x3, x4, .int .i64 yc]), (w.heap.size, 26, #[.int .i64 0, .slice none 0 0])] u ∧ RowB u lo bv Q zs c ∧ (w.heap.size < g ∧ g < lo ∧ lo ≤ bv) ∧ zs.length ≤ 5 ∧ zs.length ≤ c ∧ SRow slV 4 32 u lo (.slice (some ⟨gl, 0, none⟩) X.length cp) X ∧ gl ≠ bv ∧ (∀ x ∈ X, SlW u lo x) ∧ (2 ≤ X.length ∧ X.length ≤ 3 ∧ X.length ≤ cp)
section
variable {w v u u' : World} {g : Nat} {A : Option Addr} {l : List Int} {cap lo bv : Nat} {key : Int} {Q : Option Addr} {zs : List Int} {c : Nat} {x2 x3 x4 : Value} {yc : Int} {X : List SlA} {gl cp : Nat}
theorem T14.step (h : T14 w v g A l cap lo bv key Q zs c x2 x3 x4 yc X gl cp u) (hs : St v g A l cap u') (hg : u.grownBy u' (some g)) : T14 w v g A l cap lo bv key Q zs c x2 x3 x4 yc X gl cp u' := by
 obtain ⟨h1, h2, h3, h4, h5, h6, h7, h8, h9⟩ := h
 exact ⟨h1.step hs hg, h2.grown hg (.inl (by omega)), h3, h4, h5, SRow.grown h6 hg (by omega), h7, fun x hx => (h8 x hx).grown hg (by omega), h9⟩
theorem T14.below (h : T14 w v g A l cap lo bv key Q zs c x2 x3 x4 yc X gl cp u) (hb : Below u.heap.size u u') : T14 w v g A l cap lo bv key Q zs c x2 x3 x4 yc X gl cp u' :=
 ⟨h.1.below hb, h.2.1.below hb, h.2.2.1, h.2.2.2.1, h.2.2.2.2.1, SRow.below h.2.2.2.2.2.1 hb, h.2.2.2.2.2.2.1, fun x hx => (h.2.2.2.2.2.2.2.1 x hx).below hb, h.2.2.2.2.2.2.2.2⟩
theorem T14.at_ (h : T14 w v g A l cap lo bv key Q zs c x2 x3 x4 yc X gl cp u) {k : Nat} (hk : k < X.length) : ∀ j, j < 4 → u.cell? ⟨gl, k * 4 + j, none⟩ = (slV (X.getD k default))[j]? := by
 intro j hj
 have h6 := h.2.2.2.2.2.1
 rw [World.ownsRow.cellAt h6 (k * 4 + j) (by omega)]
 exact flatS_get slV_len k j hk hj
theorem T14.frz (h : T14 w v g A l cap lo bv key Q zs c x2 x3 x4 yc X gl cp u) : ∀ i, u.frozen? ⟨gl, i, none⟩ = false := by
 rcases h.2.2.2.2.2.1.2 with ⟨e, h0⟩ | ⟨gC, cap', cur, e, hb, hg0, hnc, hcm, hcs, htk⟩
 ·cases e
 ·simp only [Value.slice.injEq, Option.some.injEq, Addr.mk.injEq, true_and] at e
  obtain ⟨⟨rfl, -⟩, -⟩ := e
  exact (show CellsAt u gl 32 cur from hg0).frozen
theorem T14.grow (h : T14 w v g A l cap lo bv key Q zs c x2 x3 x4 yc X gl cp u) {gg cp' : Nat} {x : SlA} (hx : x ∈ X) (hg : u.grownBy u' (some gl)) (hr : SRow slV 4 32 u' lo (.slice (some ⟨gg, 0, none⟩) (X ++ [x]).length cp') (X ++ [x])) (hat : gl = gg ∨ gg = u.heap.size) (h2 : X.length ≤ 2) :
    T14 w v g A l cap lo bv key Q zs c x2 x3 x4 yc (X ++ [x]) gg cp' u' := by
 obtain ⟨h1, hq, h3, h4, h5, h6, h7, h8, h9⟩ := h
 have lbv : bv < u.heap.size := h1.lt (x := (bv, 45, #[.int .i64 key, .slice Q zs.length c, x2, x3, x4, .int .i64 yc])) (by simp)
 have hlt := SRow.lt h6 (g := gl) rfl
 have k1 := h1.gro hg (fun k e => by
  injection e with e
  subst e
  refine ⟨by omega, fun y hy => ?_⟩
  simp at hy
  rcases hy with rfl | rfl <;> (simp only []; omega))
 have ap : ∀ {b t sz n : Nat} {v : Value} {xs : List Value}, u.ownsRow b t sz v n xs → t ≠ 32 → v.ownBlock = none ∨ v.ownBlock ≠ some gl := fun hh ht => apart_of hh h6 ht
 refine ⟨k1, ⟨⟨hq.1.1.kept hg (ap hq.1.1 (by decide)), hq.1.2⟩, hq.2⟩, h3, h4, h5, hr, ?_, fun y hy => ?_, by simp; omega, by simp; omega, ?_⟩
 ·rcases hat with e | e
  ·rw [← e]; exact h7
  ·omega
 ·have hy' : y ∈ X := by
    rcases List.mem_append.1 hy with h | h
    ·exact h
    ·simp at h; subst h; exact hx
  obtain ⟨f, t, m⟩ := h8 y hy'
  exact ⟨f, SRow.kept t hg (ap t (by decide)), SRow.kept m hg (ap m (by decide))⟩
 ·obtain ⟨_, _, e, _, hc⟩ := SRow.reads slV_len hr
  injection e with e1 e2 e3
  omega
theorem T14.mac (h : T14 w v g A l cap lo bv key Q zs c x2 x3 x4 yc X gl cp u) {k : Nat} (hk : k < X.length) (z : Int) : ∃ X' : List SlA, X'.length = X.length ∧ T14 w v g A l cap lo bv key Q zs c x2 x3 x4 yc X' gl cp (u.setCell ⟨gl, k * 4 + 2, none⟩ (.int .i64 z)) := by
 obtain ⟨h1, hq, h3, h4, h5, h6, h7, h8, h9⟩ := h
 have hlt := SRow.lt h6 (g := gl) rfl
 have hg := gb_set (gb_refl u (some gl)) (k * 4 + 2) (.int .i64 z)
 have k1 := h1.gro hg (fun k e => by
  injection e with e
  subst e
  refine ⟨by omega, fun y hy => ?_⟩
  simp at hy
  rcases hy with rfl | rfl <;> (simp only []; omega))
 have ap : ∀ {b t sz n : Nat} {v : Value} {xs : List Value}, u.ownsRow b t sz v n xs → t ≠ 32 → v.ownBlock = none ∨ v.ownBlock ≠ some gl := fun hh ht => apart_of hh h6 ht
 obtain ⟨x, hxe⟩ : ∃ x, x = X.getD k default := ⟨_, rfl⟩
 have hxm : x ∈ X := by rw [hxe]; exact getD_memd hk
 refine ⟨X.set k { x with s := { x.s with mac := z } }, List.length_set .., k1, ⟨⟨hq.1.1.kept hg (ap hq.1.1 (by decide)), hq.1.2⟩, hq.2⟩, h3, h4, h5, ?_, h7, fun y hy => ?_, by rw [List.length_set]; exact h9⟩
 ·have hb : (k + 1) * 4 ≤ X.length * 4 := Nat.mul_le_mul_right 4 hk
  have h9 := row_setCell h6 (i := k * 4 + 2) (by omega) (.int .i64 z)
  unfold SRow
  rw [List.length_set]
  have e : flatS slV (X.set k { x with s := { x.s with mac := z } }) = (flatS slV X).set (k * 4 + 2) (.int .i64 z) := by
   apply List.ext_getElem?
   intro i
   have hlen : (flatS slV X).length = X.length * 4 := flatS_length slV_len
   rcases Nat.lt_or_ge i (X.length * 4) with hi | hi
   ·rw [flatS_set slV_len X k _ hk i hi]
    by_cases hin : k * 4 ≤ i ∧ i < (k + 1) * 4
    ·rw [if_pos hin]
     obtain ⟨m, hm, rfl⟩ : ∃ m, m < 4 ∧ i = k * 4 + m := ⟨i - k * 4, by omega, by omega⟩
     rw [Nat.add_sub_cancel_left, List.getElem?_set, flatS_get slV_len k m hk hm, hlen, ← hxe]
     obtain rfl | rfl | rfl | rfl : m = 0 ∨ m = 1 ∨ m = 2 ∨ m = 3 := by omega
     ·rw [if_neg (by omega)]; rfl
     ·rw [if_neg (by omega)]; rfl
     ·rw [if_pos rfl, if_pos (by omega)]; rfl
     ·rw [if_neg (by omega)]; rfl
    ·rw [if_neg hin, List.getElem?_set, if_neg (by omega)]
   ·rw [List.getElem?_eq_none (by rw [flatS_length slV_len, List.length_set]; exact hi), List.getElem?_eq_none (by rw [List.length_set, hlen]; exact hi)]
  rw [e]
  exact h9
 ·have kept : ∀ y ∈ X, SlW (u.setCell ⟨gl, k * 4 + 2, none⟩ (.int .i64 z)) lo y := fun y hy => by
    obtain ⟨f, t, m⟩ := h8 y hy
    exact ⟨f, SRow.kept t hg (ap t (by decide)), SRow.kept m hg (ap m (by decide))⟩
  rcases List.mem_or_eq_of_mem_set hy with h | rfl
  ·exact kept y h
  ·obtain ⟨f, t, m⟩ := kept x hxm
   exact ⟨⟨f.1, f.2.1, f.2.2.1, f.2.2.2⟩, t, m⟩
theorem T14.end_ {u0 : World} (h : T14 w v g A l cap lo bv key Q zs c x2 x3 x4 yc X gl cp u) (hg0 : u.grownBy u0 (some g)) (hg : u0.grownBy u' (some w.heap.size)) {n : Int} (hn : I64 n) : ChoD w (.returned (.tuple #[.agg #[.int .i64 key, .slice Q zs.length c], .slice (some ⟨gl, 0, none⟩) X.length cp, .int .i64 n])) u' := by
 obtain ⟨h1, hq, h3, h4, h5, h6, h7, h8, h9⟩ := h
 have q1 := (hq.grown hg0 (.inl (by omega))).grown hg (.inl (by omega))
 have r1 := SRow.grown (SRow.grown h6 hg0 (by omega)) hg (by omega)
 have hm : (X.map (·.s)).length = X.length := List.length_map ..
 have hgd : ∀ i, i < X.length → (X.map (·.s)).getD i default = (X.getD i default).s := fun i hi => by
  rw [List.getD_eq_getElem?_getD, List.getD_eq_getElem?_getD, List.getElem?_map, List.getElem?_eq_getElem hi]; rfl
 refine ⟨key, Q, zs, c, some ⟨gl, 0, none⟩, X.map (·.s), cp, n, by rw [hm], hn, h4, h5, by omega, by omega, fun i hi => ?_, rowb_ints q1, fun i hi => ?_, bgb (bgb h1.1 hg0 h1.1.size (by omega)) hg (Nat.le_trans h1.1.size hg0.size) (Nat.le_refl _)⟩
 ·rw [hm] at hi
  rw [hgd i hi]
  exact (h8 _ (getD_memd hi)).1
 ·rw [hm] at hi
  rw [hgd i hi]
  obtain ⟨f, t, m⟩ := ((h8 _ (getD_memd hi)).grown hg0 (by omega)).grown hg (by omega)
  have hc : ∀ j, j < 4 → u'.cell? ⟨gl, i * 4 + j, none⟩ = (slV (X.getD i default))[j]? := fun j hj => by
   rw [World.ownsRow.cellAt r1 (i * 4 + j) (by omega)]
   exact flatS_get slV_len i j hi hj
  refine ⟨gl, 0, rfl, (SRow.lt r1 (g := gl) rfl).2, (X.getD i default).B, (X.getD i default).tc, (X.getD i default).C, (X.getD i default).cc, ?_, ?_, ?_, ?_, row_cls t truV_len, row_cls m ceV_len⟩
  ·have := hc 0 (by omega); rwa [Nat.zero_add]
  ·have := hc 1 (by omega); rwa [Nat.zero_add]
  ·have := hc 2 (by omega); rwa [Nat.zero_add]
  ·have := hc 3 (by omega); rwa [Nat.zero_add]
end
def Two2 (b u : World) (g p : Nat) : Prop := u.os = b.os ∧ u.tape = b.tape ∧ u.output = b.output ∧ b.heap.size ≤ u.heap.size ∧ ∀ k, k < b.heap.size → k ≠ g → k ≠ p → u.heap[k]? = b.heap[k]?
theorem Two2.split {b u : World} {g p : Nat} (h : Two2 b u g p) (hgp : g ≠ p) (hp : p < b.heap.size) : ∃ u0, b.grownBy u0 (some g) ∧ u0.grownBy u (some p) := by
 obtain ⟨h1, h2, h3, h4, h5⟩ := h
 have hpb : b.heap[p]? = some b.heap[p] := Array.getElem?_eq_getElem hp
 refine ⟨{ u with heap := u.heap.setIfInBounds p b.heap[p] }, ⟨h1, h2, h3, by simpa using h4, fun k hk hr => ?_⟩, ⟨rfl, rfl, rfl, by simp, fun k hk hr => ?_⟩⟩
 ·have hkg : k ≠ g := fun e => hr (by rw [e])
  simp only []
  by_cases e : k = p
  ·subst e
   rw [Array.getElem?_setIfInBounds_self_of_lt (by omega)]
   exact hpb.symm
  ·rw [Array.getElem?_setIfInBounds_ne (by omega)]
   exact h5 k hk hkg e
 ·have hkp : k ≠ p := fun e => hr (by rw [e])
  simp only []
  rw [Array.getElem?_setIfInBounds_ne (by omega)]
theorem Two2.grown {b u u' : World} {g p r : Nat} (h : Two2 b u g p) (hg : u.grownBy u' (some r)) (hr : r = g ∨ r = p) : Two2 b u' g p := by
 obtain ⟨h1, h2, h3, h4, h5⟩ := h
 refine ⟨hg.os.trans h1, hg.tape.trans h2, hg.output.trans h3, Nat.le_trans h4 hg.size, fun k hk n1 n2 => ?_⟩
 rw [hg.block k (Nat.lt_of_lt_of_le hk h4) (by intro e; injection e with e; rcases hr with rfl | rfl <;> omega)]
 exact h5 k hk n1 n2
def D14C (b : World) (g : Nat) (A : Option Addr) (l : List Int) (cap bv p0 : Nat) (VV PP : Array Value) (D : Nat → Bool) (γ : Nat → Value) (u : World) : Prop :=
 (Ints u .u8 p0 A l ∧ Cur u g A l cap) ∧ Two2 b u g p0 ∧ CellsAt u bv 45 VV ∧ ∃ z, CellsAt u p0 26 z ∧ z.size = PP.size ∧ (D 11 = true → z = PP)
section
variable {b u u' : World} {g : Nat} {A : Option Addr} {l : List Int} {cap bv p0 : Nat} {VV PP : Array Value} {D : Nat → Bool} {γ : Nat → Value}
theorem D14C.st (h : D14C b g A l cap bv p0 VV PP D γ u) : St u g A l cap u := ⟨Below.refl _ _, h.1.2⟩
theorem D14C.draw (h : D14C b g A l cap bv p0 VV PP D γ u) {i : Nat} (hi : i ≠ 11) (hb : bv ≠ g) (hp : p0 < g) (hs : St u g A l cap u') (hg : u.grownBy u' (some g)) {x : Value} : D14C b g A l cap bv p0 VV PP (setD D i) (setG γ i x) u' := by
 obtain ⟨⟨h1, h2⟩, h3, h4, z, h5, h6, h7⟩ := h
 refine ⟨⟨h1.below (gr_below (B := p0) hg (by have := h2.lt; omega) (fun k e => by injection e; omega)) (Nat.le_refl _), hs.2⟩, h3.grown hg (.inl rfl), h4.grown hg (by intro e; injection e with e; exact hb e), z, h5.grown hg (by intro e; injection e; omega), h6, fun e => ?_⟩
 rw [setD_ne (by omega)] at e
 exact h7 e
theorem D14C.store (h : D14C b g A l cap bv p0 VV PP D γ u) (hb : bv ≠ p0) (hp : p0 < g) (hc : CellsAt u' p0 26 PP) (hg : u.grownBy u' (some p0)) {x : Value} : D14C b g A l cap bv p0 VV PP (setD D 11) (setG γ 11 x) u' := by
 obtain ⟨⟨h1, h2⟩, h3, h4, z, h5, h6, h7⟩ := h
 have i1 : Ints u' .u8 p0 A l := h1.below (gr_below (B := p0) hg (by have := h2.lt; omega) (fun k e => by injection e; omega)) (Nat.le_refl _)
 obtain ⟨-, i, y, hi, hcu⟩ := h2
 exact ⟨⟨i1, i1.more (by omega), i, y, hi, hcu.grown hg (by intro e; injection e; omega)⟩, h3.grown hg (.inr rfl), h4.grown hg (by intro e; injection e with e; exact hb e), PP, hc, rfl, fun _ => rfl⟩
end
set_option maxRecDepth 20000 in
set_option maxHeartbeats 16000000 in
theorem drawChosen_calls (A : Option Addr) (l : List Int) (cap : Nat) (w : World) (hn : l.length ≤ 4096) (hA : Ints w .u8 w.heap.size A l) :
    Calls Tryz.prog 6 #[.slice A l.length cap] w (ChoD w) := by
 have HN := Lib.hid (show l.length ≤ maxLen by unfold maxLen; omega)
 have HM := Lib.hid hn
 have K0 := Lib.hid (show Kept w [(w.heap.size, 26, #[.int .i64 0, .slice none 0 0])] _ from ((Kept.refl w).put1 _ _ #[.int .i64 0, .slice none 0 0] rfl))
 have AI := Lib.hid (fun (u : World) (hb : Below w.heap.size w u) => hA.below hb (Nat.le_refl _))
 have HA := Lib.hid (fun (u : World) (hb : Below w.heap.size w u) => (hA.below hb (Nat.le_refl _)).more hb.size)
 have Z0 := Lib.hid (show (w.alloc (.cells #[.int .i64 0, .slice none 0 0] 26)).heap.size = w.heap.size + 1 by simp)
 have hnl : (l.length : Int) ≤ 4096 := by omega
 clear hn hA
 go_enter Tryz.func6, Tryz.ntmps6
 go_upto_region 1 with fail
 have k0 := K0.out
 have z0 := Z0.out
 clear K0 Z0
 generalize World.alloc _ _ = w0 at k0 z0 ⊢
 have HZ := Lib.hid z0
 clear z0
 go_wp2_with fail
 refine (new_calls A l cap _ HN.out (HA.out _ k0.1)).mono ?_; rintro e w1 ⟨rfl, b1, c1⟩
 rw [HZ.out]
 rw [HZ.out] at c1
 have s1 : St w0 (w.heap.size + 1) A l cap w1 := ⟨by rw [← HZ.out]; exact b1, c1⟩
 have k1 := k0.below b1
 have H1 := Lib.hid (show KB w w0 (w.heap.size + 1) A l cap [(w.heap.size, 26, #[.int .i64 0, .slice none 0 0])] w1 from ⟨k1.1, s1, by omega, fun x hx => ⟨⟨(k1.2 x hx).1, by simp at hx; subst hx; (simp only []; omega)⟩, (k1.2 x hx).2⟩⟩)
 clear b1 c1 s1 k1 k0 HA
 have z1 : w.heap.size + 1 < w1.heap.size := H1.out.2.1.2.lt
 go_wp2_with fail
 refine (draw12_calls w0 (w.heap.size + 1) A l cap w1 HM.out H1.out.2.1).mono ?_; rintro e w2 ⟨y, cs, rfl, hy, hv, s2, g2⟩
 have h2 := H1.out.step s2 g2
 obtain ⟨Q, c, B9, d9, C9, e9, gs, A0, c0, C0, d0, A1, c1, C1, d1, hve, hq, -, -, hgs, hcs, ht0, hm0, ht1, hm1, hpw⟩ := hv
 injection hve with hve
 subst hve
 simp only [vX]
 have hl2 := g2.size
 have hgl : gs < w2.heap.size := hcs.lt
 obtain ⟨_, _, eq9, _, hcq⟩ := hq.form
 injection eq9 with eq1 eq2 eq3
 subst eq1 eq3
 have hqb : RowB w2 w1.heap.size w2.heap.size Q y.counts c := RowB.of ⟨hq, fun i hi => by have := hy.1.2.2.1 i hi; omega⟩
 have h45 : y.counts.length ≤ 5 := by have := hy.1.2.1.2; omega
 have hp := hy.1
 have i0 := hy.2.2.2.2.1.fits hp
 have i1 := hy.2.2.2.2.2.fits hp
 clear hp
 generalize y.counts = zs at hqb h45 hcq ⊢
 generalize y.key = key
 generalize y.trusts.length = n2
 generalize y.cells.length = n3
 generalize y.count = yc
 generalize y.s0 = sl0 at hcs ht0 hm0 i0
 generalize y.s1 = sl1 at hcs ht1 hm1 i1
 have hr : SRow slV 4 32 w2 w1.heap.size (.slice (some ⟨gs, 0, none⟩) [(⟨sl0, A0, c0, C0, d0⟩ : SlA), ⟨sl1, A1, c1, C1, d1⟩].length 2) [(⟨sl0, A0, c0, C0, d0⟩ : SlA), ⟨sl1, A1, c1, C1, d1⟩] := ⟨rfl, .inr ⟨gs, 2, _, rfl, hgs, hcs, by simp, by simp [maxLen], rfl, rfl⟩⟩
 have h3 := h2.put1 w2.heap.size 45 #[.int .i64 key, .slice Q zs.length c, .slice B9 n2 d9, .slice C9 n3 e9, .slice (some ⟨gs, 0, none⟩) 2 2, .int .i64 yc] rfl
 have bx := box_below w2 (.cells #[.int .i64 key, .slice Q zs.length c, .slice B9 n2 d9, .slice C9 n3 e9, .slice (some ⟨gs, 0, none⟩) 2 2, .int .i64 yc] 45)
 have H3 := Lib.hid (show T14 w w0 (w.heap.size + 1) A l cap w1.heap.size w2.heap.size key Q zs c (.slice B9 n2 d9) (.slice C9 n3 e9) (.slice (some ⟨gs, 0, none⟩) 2 2) yc [(⟨sl0, A0, c0, C0, d0⟩ : SlA), ⟨sl1, A1, c1, C1, d1⟩] gs 2 _ from ⟨h3, hqb.below bx, ⟨by omega, by omega, by omega⟩, h45, hcq, SRow.below hr bx, by omega, fun x hx => by
  simp at hx
  rcases hx with rfl | rfl
  ·exact SlW.below ⟨i0, ht0, hm0⟩ bx
  ·exact SlW.below ⟨i1, ht1, hm1⟩ bx, by simp⟩)
 clear hq hcs ht0 hm0 ht1 hm1 hpw hqb hcq h2 H1 g2 s2 bx hr i0 i1 h45 h3 hgl hgs hl2 z1
 go_upto_region 3 with fail
 generalize World.alloc _ _ = w3 at H3 ⊢
 generalize w1.heap.size = lo at H3
 generalize w2.heap.size = bv at H3 ⊢
 obtain ⟨kc0, kf0, kc1, kf1, -⟩ := H3.out.1.rd
 go_upto_region 4 with fail
 clear kc0 kf0 kc1 kf1
 have HX : RowKit.Hid ([(⟨sl0, A0, c0, C0, d0⟩ : SlA), ⟨sl1, A1, c1, C1, d1⟩].length = 2) := Lib.hid rfl
 obtain ⟨X, hX⟩ : ∃ X, X = [(⟨sl0, A0, c0, C0, d0⟩ : SlA), ⟨sl1, A1, c1, C1, d1⟩] := ⟨_, rfl⟩
 rw [← hX] at H3 HX
 have hX2 : X.length = 2 := HX.out
 clear hX HX
 go_wp2_with fail
 refine (once_st w0 (w.heap.size + 1) A l cap 6 w3 HN.out H3.out.1.2.1 (by omega)).mono ?_; rintro e w6 ⟨bb, rfl, s6, g6⟩
 have H6 := Lib.hid (H3.out.step s6 g6)
 clear s6 g6 H3
 rcases bb with _ | _
 case' false =>
  go_upto_region 6 with fail
  obtain ⟨gl, cp, nX, eS, hnX, ht⟩ : ∃ gl cp nX, Value.slice (some ⟨gs, 0, none⟩) 2 2 = .slice (some ⟨gl, 0, none⟩) nX cp ∧ nX = X.length ∧ T14 w w0 (w.heap.size + 1) A l cap lo bv key Q zs c (.slice B9 n2 d9) (.slice C9 n3 e9) (.slice (some ⟨gs, 0, none⟩) 2 2) yc X gl cp w6 := ⟨gs, 2, 2, rfl, hX2.symm, H6.out⟩
  have HT := Lib.hid ht
  clear ht H6 hX2
  generalize w6 = w8 at HT ⊢
  generalize X = X8 at HT hnX
  have HNX := Lib.hid hnX
  clear hnX
  rw [eS]
  clear eS
 case' true =>
  go_wp2_with fail
  refine (below_st w0 (w.heap.size + 1) A l cap 2 w6 HN.out H6.out.1.2.1 (by omega)).mono ?_; rintro e w7 ⟨n, rfl, ⟨n0, n1⟩, s7, g7⟩
  have h7 := H6.out.step s7 g7
  obtain ⟨k, rfl⟩ := Int.eq_ofNat_of_zero_le n0
  have hk2 : k < X.length := by omega
  have hkl : (k : Int) < 2 := by omega
  have hk0 : (0 : Int) ≤ k := by omega
  have hat := h7.at_ hk2
  have hxm := getD_memd hk2
  generalize X.getD k default = x at hat hxm
  have e0 : w7.cell? ⟨gs, k * 4, none⟩ = some (.int .i64 x.s.count) := hat 0 (by omega)
  have e1 : w7.cell? ⟨gs, k * 4 + 1, none⟩ = some (.slice x.B x.s.trusts.length x.tc) := hat 1 (by omega)
  have e2 : w7.cell? ⟨gs, k * 4 + 2, none⟩ = some (.int .i64 x.s.mac) := hat 2 (by omega)
  have e3 : w7.cell? ⟨gs, k * 4 + 3, none⟩ = some (.slice x.C x.s.cells.length x.cc) := hat 3 (by omega)
  have bx := box_below w7 (.cells #[.int .i64 x.s.count, .slice x.B x.s.trusts.length x.tc, .int .i64 x.s.mac, .slice x.C x.s.cells.length x.cc] 32)
  have H8 := Lib.hid (h7.below bx)
  have hsz : (w7.alloc (.cells #[.int .i64 x.s.count, .slice x.B x.s.trusts.length x.tc, .int .i64 x.s.mac, .slice x.C x.s.cells.length x.cc] 32)).heap.size = w7.heap.size + 1 := by simp
  have hlo : lo ≤ w7.heap.size := by have h1 := h7.1.lt (x := (bv, 45, #[.int .i64 key, .slice Q zs.length c, .slice B9 n2 d9, .slice C9 n3 e9, .slice (some ⟨gs, 0, none⟩) 2 2, .int .i64 yc])) (by simp); have h2 := h7.2.2.1; simp only [] at h1; omega
  have hel := heap_alloc_new w7 (.cells #[.int .i64 x.s.count, .slice x.B x.s.trusts.length x.tc, .int .i64 x.s.mac, .slice x.C x.s.cells.length x.cc] 32)
  obtain ⟨ic, hci, hcz⟩ := Option.map_eq_some_iff.1 info_slot
  simp only [Prod.mk.injEq] at hcz
  have hrow := H8.out.2.2.2.2.2.1
  unfold SRow at hrow
  rw [hX2] at hrow
  have HRW := Lib.hid hrow
  have HXM := Lib.hid hxm
  have HX2 := Lib.hid hX2
  clear hrow n0 n1 s7 g7 h7 hat bx H6 hxm hX2 hk2
  go_wp2_with (at_builtin; refine wpList_append_lies _ rfl _ _ 35 rfl lo 32 ic (.agg #[.int .i64 0, .slice none 0 0, .int .i64 0, .slice none 0 0]) 4 64 Tryz.underlying35 hci hcz.1 hcz.2.1 hcz.2.2 rfl (by omega) (.slice (some ⟨gs, 0, none⟩) 2 2) 2 (flatS slV X) rfl HRW.out ⟨w7.heap.size, 0, none⟩ 1 1 [.int .i64 x.s.count, .slice x.B x.s.trusts.length x.tc, .int .i64 x.s.mac, .slice x.C x.s.cells.length x.cc] rfl rfl (World.news_of_block (cs := #[.int .i64 x.s.count, .slice x.B x.s.trusts.length x.tc, .int .i64 x.s.mac, .slice x.C x.s.cells.length x.cc]) (t := 32) (fr := (0, 0)) hel) (by simp [Value.oneCell']) (by omega) ?n1 ?n2 ?n3 (w7.heap.size + 1) ?n4 ?_)
  case n1 => unfold maxLen; omega
  case n2 => omega
  case n3 => rw [hsz]; omega
  case n4 => exact hsz
  intro gg cg wc hown hgrow hat hlt2
  have ht0 := H8.out.grow HXM.out hgrow (show SRow slV 4 32 wc lo (.slice (some ⟨gg, 0, none⟩) (X ++ [x]).length cg) (X ++ [x]) from by
   unfold SRow
   rw [flatS_snoc, List.length_append, HX2.out]
   exact hown) (by
   rcases hat with h | h
   ·left; simpa [Value.ownBlock] using h
   ·right; rw [hsz]; exact h) (by rw [HX2.out]; omega)
  have hl3 : (X ++ [x]).length = 3 := by rw [List.length_append, HX2.out]; rfl
  have HT0 := Lib.hid ht0
  have HL3 := Lib.hid hl3
  clear ht0 hl3 hown hgrow hat hlt2 hel hci hcz hlo hsz e0 e1 e2 e3 H8 HRW HX2 HXM hkl hk0
  go_upto_region 6 with fail
  obtain ⟨gl, cp, nX, eS, hnX, ht⟩ : ∃ gl cp nX, Value.slice (some ⟨gg, 0, none⟩) 3 cg = .slice (some ⟨gl, 0, none⟩) nX cp ∧ nX = (X ++ [x]).length ∧ T14 w w0 (w.heap.size + 1) A l cap lo bv key Q zs c (.slice B9 n2 d9) (.slice C9 n3 e9) (.slice (some ⟨gs, 0, none⟩) 2 2) yc (X ++ [x]) gl cp wc := ⟨gg, cg, 3, rfl, HL3.out.symm, HT0.out⟩
  have HT := Lib.hid ht
  clear ht HT0 HL3
  generalize wc = w8 at HT ⊢
  generalize X ++ [x] = X8 at HT hnX
  have HNX := Lib.hid hnX
  clear hnX
  rw [eS]
  clear eS
 all_goals
  go_wp2_with fail
  refine (once_st w0 (w.heap.size + 1) A l cap 3 w8 HN.out HT.out.1.2.1 (by omega)).mono ?_; rintro e w9 ⟨bb, rfl, s9, g9⟩
  have H9 := Lib.hid (HT.out.step s9 g9)
  clear s9 g9 HT
  rcases bb with _ | _
  ·have HEE : RowKit.Hid (∃ X9 : List SlA, X9.length = nX ∧ T14 w w0 (w.heap.size + 1) A l cap lo bv key Q zs c (.slice B9 n2 d9) (.slice C9 n3 e9) (.slice (some ⟨gs, 0, none⟩) 2 2) yc X9 gl cp w9) := Lib.hid ⟨_, HNX.out.symm, H9.out⟩
   clear H9
   go_upto_region 8 with fail
   have HE := HEE
   clear HEE
   obtain ⟨X9, hX9, h9⟩ := HE.out
   clear HE
   have HB := Lib.hid h9
   have HX9 := Lib.hid hX9
   have hgl := h9.1.2.1.2.lt
   have hp0 := h9.1.lt (x := (w.heap.size, 26, #[.int .i64 0, .slice none 0 0])) (by simp)
   simp only [] at hp0
   have CB := Lib.hid (h9.1.at_ (p := bv) (t := 45) (cs := #[.int .i64 key, .slice Q zs.length c, .slice B9 n2 d9, .slice C9 n3 e9, .slice (some ⟨gs, 0, none⟩) 2 2, .int .i64 yc]) (by simp))
   have CP := Lib.hid (h9.1.at_ (p := w.heap.size) (t := 26) (cs := #[.int .i64 0, .slice none 0 0]) (by simp))
   have Z1 := Lib.hid (show w.heap.size < w.heap.size + 1 ∧ w.heap.size + 1 < lo ∧ lo ≤ bv from h9.2.2.1)
   clear h9 hX9
   refine wp_region_free [false, false, false, false, false, false, true, false, true, false, false, true, false, false] (ShL [(6, fun v => ∃ a : Int, v = .int .i64 a), (8, fun v => ∃ a : Int, v = .int .i64 a)]) (fun D γ u => D14C w9 (w.heap.size + 1) A l cap bv w.heap.size #[.int .i64 key, .slice Q zs.length c, .slice B9 n2 d9, .slice C9 n3 e9, .slice (some ⟨gs, 0, none⟩) 2 2, .int .i64 yc] #[.int .i64 key, .slice Q zs.length c] D γ u) (by kernel_rfl) (by kernel_rfl) (fun γ => by kernel_rfl) (fun D γ γ' w ha h => h) (ShL.inh _ ?inh) (fun γ => ⟨⟨(AI.out _ HB.out.1.1.drew), HB.out.1.2.1.2⟩, ⟨rfl, rfl, rfl, Nat.le_refl _, fun _ _ _ _ => rfl⟩, CB.out.drew, _, CP.out.drew, rfl, fun e => (by cases e)⟩) (fun γ hγ => ?_)
   case inh =>
    intro y hy
    simp only [List.mem_cons, List.not_mem_nil, or_false] at hy
    rcases hy with rfl | rfl
    ·exact ⟨_, 0, rfl⟩
    ·exact ⟨_, 0, rfl⟩
   obtain ⟨a6, g6⟩ : ∃ a : Int, γ 6 = .int .i64 a := hγ 6 rfl
   obtain ⟨a8, g8⟩ : ∃ a : Int, γ 8 = .int .i64 a := hγ 8 rfl
   have g11 : γ 11 = undef := hγ 11 rfl
   apply Exists.intro
   refine ⟨fun D => ?_, ?_, ?_⟩
   ·simp only [hushL, cond_true, cond_false, Nat.reduceAdd, g6, g8, g11]
    iterate 14 (first
     | go_big_quiet_skip
     | (go_big_quiet_want
        go_big_quiet_op
        first
         | go_big_quiet_on
         | (apply Exists.intro
            refine ⟨fun u hu => ?_, ?_⟩
            ·first
               | with_reducible rfl
               | (have kc0 := hu.2.2.1.cell; go_simp; first | done | with_reducible rfl)
            go_big_quiet_on)))
    exact wpQuiet_nil rfl
   ·simp only [freeOk, Nat.reduceAdd]
    refine ⟨fun D u hD hd hu => ?_, fun D u hD hd hu => ?_, fun D u hD hd hu => ?_, trivial⟩
    ·exact steps_call ((from_st u (w.heap.size + 1) A l cap (-1) 1 u HN.out hu.st (by omega) (by omega) (by omega)).mono fun e w' ⟨x, he, hx, sx, gx⟩ => ⟨_, he, ⟨x, rfl⟩, hu.draw (by omega) (by have := Z1.out; omega) (by omega) sx gx⟩) rfl rfl rfl rfl (by kernel_rfl)
    ·exact steps_call ((below_st u (w.heap.size + 1) A l cap 2 u HN.out hu.st (by omega)).mono fun e w' ⟨x, he, hx, sx, gx⟩ => ⟨_, he, ⟨x, rfl⟩, hu.draw (by omega) (by have := Z1.out; omega) (by omega) sx gx⟩) rfl rfl rfl rfl (by kernel_rfl)
    ·obtain ⟨z, hz, hzs, -⟩ := hu.2.2.2
     exact steps_store hz rfl rfl (show _ = Value.agg #[.int .i64 key, .slice Q zs.length c] from rfl) (by kernel_rfl) hzs (by simp [Value.oneCell']) (fun w' hc hg => ⟨rfl, hu.store (by have := Z1.out; omega) (by omega) hc hg⟩)
   ·intro D uf hD hu
    obtain ⟨-, h2u, -, z, hc, -, hz⟩ := hu
    rw [hz (hD 11 (by simp) rfl)] at hc
    obtain ⟨u0, hg0, hg⟩ := h2u.split (by omega) hp0
    have hE := HB.out.end_ hg0 hg (n := wrap64 (yc + wrap64 (a6 * a8))) (i64_w64 _)
    rw [HX9.out] at hE
    have HE := Lib.hid hE
    have d0 := hc.cell
    clear hE hD hc hg hg0 h2u hz
    go_wp2_with fail
    exact bodyPost_ret (v := .tuple #[.agg _, _, _]) (by simp [results, Tryz.results6, go_sem, d0]) rfl HE.out
  ·go_wp2_with fail
   refine (below_st w0 (w.heap.size + 1) A l cap 2 w9 HN.out H9.out.1.2.1 (by omega)).mono ?_; rintro e w10 ⟨n, rfl, ⟨n0, n1⟩, s7, g7⟩
   have h7 := H9.out.step s7 g7
   obtain ⟨k, rfl⟩ := Int.eq_ofNat_of_zero_le n0
   have hk2 : k < X8.length := by have := h7.2.2.2.2.2.2.2.2.1; omega
   have hkl : (k : Int) < nX := by have := HNX.out; omega
   have hk0 : (0 : Int) ≤ k := by omega
   have e2 : w10.cell? ⟨gl, k * 4 + 2, none⟩ = some (.int .i64 (X8.getD k default).s.mac) := h7.at_ hk2 2 (by omega)
   have f2 := h7.frz (k * 4 + 2)
   have HEE : RowKit.Hid (∃ X9 : List SlA, X9.length = nX ∧ T14 w w0 (w.heap.size + 1) A l cap lo bv key Q zs c (.slice B9 n2 d9) (.slice C9 n3 e9) (.slice (some ⟨gs, 0, none⟩) 2 2) yc X9 gl cp (w10.setCell ⟨gl, k * 4 + 2, none⟩ (.int .i64 5))) := Lib.hid (by obtain ⟨X', hx, ht⟩ := h7.mac hk2 5; exact ⟨X', by have := HNX.out; omega, ht⟩)
   clear s7 g7 n0 n1 h7 hk2 H9
   go_upto_region 8 with fail
   clear e2 f2 hkl hk0
   generalize World.setCell _ _ _ = w9 at HEE ⊢
   have HE := HEE
   clear HEE
   obtain ⟨X9, hX9, h9⟩ := HE.out
   clear HE
   have HB := Lib.hid h9
   have HX9 := Lib.hid hX9
   have hgl := h9.1.2.1.2.lt
   have hp0 := h9.1.lt (x := (w.heap.size, 26, #[.int .i64 0, .slice none 0 0])) (by simp)
   simp only [] at hp0
   have CB := Lib.hid (h9.1.at_ (p := bv) (t := 45) (cs := #[.int .i64 key, .slice Q zs.length c, .slice B9 n2 d9, .slice C9 n3 e9, .slice (some ⟨gs, 0, none⟩) 2 2, .int .i64 yc]) (by simp))
   have CP := Lib.hid (h9.1.at_ (p := w.heap.size) (t := 26) (cs := #[.int .i64 0, .slice none 0 0]) (by simp))
   have Z1 := Lib.hid (show w.heap.size < w.heap.size + 1 ∧ w.heap.size + 1 < lo ∧ lo ≤ bv from h9.2.2.1)
   clear h9 hX9
   refine wp_region_free [false, false, false, false, false, false, true, false, true, false, false, true, false, false] (ShL [(6, fun v => ∃ a : Int, v = .int .i64 a), (8, fun v => ∃ a : Int, v = .int .i64 a)]) (fun D γ u => D14C w9 (w.heap.size + 1) A l cap bv w.heap.size #[.int .i64 key, .slice Q zs.length c, .slice B9 n2 d9, .slice C9 n3 e9, .slice (some ⟨gs, 0, none⟩) 2 2, .int .i64 yc] #[.int .i64 key, .slice Q zs.length c] D γ u) (by kernel_rfl) (by kernel_rfl) (fun γ => by kernel_rfl) (fun D γ γ' w ha h => h) (ShL.inh _ ?inh) (fun γ => ⟨⟨(AI.out _ HB.out.1.1.drew), HB.out.1.2.1.2⟩, ⟨rfl, rfl, rfl, Nat.le_refl _, fun _ _ _ _ => rfl⟩, CB.out.drew, _, CP.out.drew, rfl, fun e => (by cases e)⟩) (fun γ hγ => ?_)
   case inh =>
    intro y hy
    simp only [List.mem_cons, List.not_mem_nil, or_false] at hy
    rcases hy with rfl | rfl
    ·exact ⟨_, 0, rfl⟩
    ·exact ⟨_, 0, rfl⟩
   obtain ⟨a6, g6⟩ : ∃ a : Int, γ 6 = .int .i64 a := hγ 6 rfl
   obtain ⟨a8, g8⟩ : ∃ a : Int, γ 8 = .int .i64 a := hγ 8 rfl
   have g11 : γ 11 = undef := hγ 11 rfl
   apply Exists.intro
   refine ⟨fun D => ?_, ?_, ?_⟩
   ·simp only [hushL, cond_true, cond_false, Nat.reduceAdd, g6, g8, g11]
    iterate 14 (first
     | go_big_quiet_skip
     | (go_big_quiet_want
        go_big_quiet_op
        first
         | go_big_quiet_on
         | (apply Exists.intro
            refine ⟨fun u hu => ?_, ?_⟩
            ·first
               | with_reducible rfl
               | (have kc0 := hu.2.2.1.cell; go_simp; first | done | with_reducible rfl)
            go_big_quiet_on)))
    exact wpQuiet_nil rfl
   ·simp only [freeOk, Nat.reduceAdd]
    refine ⟨fun D u hD hd hu => ?_, fun D u hD hd hu => ?_, fun D u hD hd hu => ?_, trivial⟩
    ·exact steps_call ((from_st u (w.heap.size + 1) A l cap (-1) 1 u HN.out hu.st (by omega) (by omega) (by omega)).mono fun e w' ⟨x, he, hx, sx, gx⟩ => ⟨_, he, ⟨x, rfl⟩, hu.draw (by omega) (by have := Z1.out; omega) (by omega) sx gx⟩) rfl rfl rfl rfl (by kernel_rfl)
    ·exact steps_call ((below_st u (w.heap.size + 1) A l cap 2 u HN.out hu.st (by omega)).mono fun e w' ⟨x, he, hx, sx, gx⟩ => ⟨_, he, ⟨x, rfl⟩, hu.draw (by omega) (by have := Z1.out; omega) (by omega) sx gx⟩) rfl rfl rfl rfl (by kernel_rfl)
    ·obtain ⟨z, hz, hzs, -⟩ := hu.2.2.2
     exact steps_store hz rfl rfl (show _ = Value.agg #[.int .i64 key, .slice Q zs.length c] from rfl) (by kernel_rfl) hzs (by simp [Value.oneCell']) (fun w' hc hg => ⟨rfl, hu.store (by have := Z1.out; omega) (by omega) hc hg⟩)
   ·intro D uf hD hu
    obtain ⟨-, h2u, -, z, hc, -, hz⟩ := hu
    rw [hz (hD 11 (by simp) rfl)] at hc
    obtain ⟨u0, hg0, hg⟩ := h2u.split (by omega) hp0
    have hE := HB.out.end_ hg0 hg (n := wrap64 (yc + wrap64 (a6 * a8))) (i64_w64 _)
    rw [HX9.out] at hE
    have HE := Lib.hid hE
    have d0 := hc.cell
    clear hE hD hc hg hg0 h2u hz
    go_wp2_with fail
    exact bodyPost_ret (v := .tuple #[.agg _, _, _]) (by simp [results, Tryz.results6, go_sem, d0]) rfl HE.out
theorem CountsOk.nil : CountsOk [] := fun i hi => by simp at hi
theorem CountsOk.snoc {l : List Int} {x : Int} (h : CountsOk l) (h0 : 1 ≤ x) (h1 : x ≤ 8) : CountsOk (l ++ [x]) := by
 intro i hi
 rw [List.getD_eq_getElem?_getD]
 rcases Nat.lt_or_ge i l.length with hlt | hge
 ·rw [List.getElem?_append_left hlt]
  have := h i hlt
  rwa [List.getD_eq_getElem?_getD] at this
 ·have : i = l.length := by simp at hi; omega
  subst this
  simp
  exact ⟨h0, h1⟩
def Schemed (w : World) (g : Nat) (A : Option Addr) (l : List Int) (cap : Nat) (e : Ending) (w' : World) : Prop :=
 ∃ (key : Int) (u : Value) (zs : List Int), e = .returned (.agg #[.int .i64 key, u]) ∧ planOk key zs ∧ Row w' w.heap.size 2 u zs ∧ Dice w' g A l cap ∧ w.grownBy w' (some g)
set_option maxRecDepth 20000 in
set_option maxHeartbeats 1000000 in
theorem scheme_calls (g : Nat) (A : Option Addr) (l : List Int) (cap : Nat) (w : World) (hn : l.length ≤ maxLen) (h : Dice w g A l cap) (h8 : ∀ i, i < l.length → 0 ≤ l.getD i 0 ∧ l.getD i 0 ≤ 255) :
    Calls Tryz.prog 12 #[.pointer (some ⟨g, 0, none⟩)] w (Schemed w g A l cap) := by
 have HN := Lib.hid hn
 have HS := Lib.hid h
 have H8 := Lib.hid h8
 have HL := h.lt
 clear hn h h8
 obtain ⟨i0, hi, hz0, hz1, hz2⟩ := info_parts info_n64
 go_enter Tryz.func12, Tryz.ntmps12
 go_wp2_with fail
 refine (throw_calls g A l cap 100000 _ HN.out (d8_below HS.out ((Below.refl _ _).alloc (Nat.le_refl _) _)) H8.out (by omega)).mono ?_; rintro e w1 ⟨x, rfl, ⟨x0, x1⟩, g1, s1⟩
 have S1 := Lib.hid s1
 have G1 := Lib.hid (gb_trans (gb_alloc (gb_refl w (some g)) _) g1)
 have K1 := Lib.hid ((CellsAt.new w 26 #[.int .i64 0, .slice none 0 0]).grown g1 (by intro e; injection e with e; omega))
 have z1 : w.heap.size < w1.heap.size := by have := g1.size; simp at this; omega
 clear s1 g1
 go_wp2_with fail
 refine (throw_calls g A l cap 3 _ HN.out (d8_below S1.out ((Below.refl _ _).alloc (Nat.le_refl _) (.cells #[.int .i64 (1 + x), .slice none 0 0] 26))) H8.out (by omega)).mono ?_; rintro e w2 ⟨n, rfl, ⟨n0, n1⟩, g2, s2⟩
 have S2 := Lib.hid s2
 have G2 := Lib.hid (gb_trans (gb_alloc G1.out (.cells #[.int .i64 (1 + x), .slice none 0 0] 26)) g2)
 have K2 := Lib.hid ((CellsAt.grown K1.out (World.grownBy_alloc w1 (.cells #[.int .i64 (1 + x), .slice none 0 0] 26) none) (by simp)).grown g2 (by intro e; injection e with e; omega))
 have P2 := Lib.hid (PBox.grown (show PBox (w1.alloc (.cells #[.int .i64 (1 + x), .slice none 0 0] 26)) (w1.heap.size + 1) w1.heap.size (1 + x) (.slice none 0 0) [] from
  ⟨by omega, by simp, CellsAt.new _ _ _, ⟨World.ownsRow_nil _ _ _ _, I64s.nil⟩⟩) g2 (by omega))
 clear s2 g2
 obtain ⟨k, rfl⟩ := Int.eq_ofNat_of_zero_le n0
 go_wp2_with fail
 go_loopw [4] (fun i wr => ∃ (j : Nat) (u : Value) (zs : List Int), i = .int .i64 j ∧ (1 ≤ j + zs.length ∧ j + zs.length ≤ 3) ∧ CountsOk zs ∧ PBox wr (w1.heap.size + 1) w1.heap.size (1 + x) u zs ∧ CellsAt wr w.heap.size 26 #[.int .i64 0, .slice none 0 0] ∧ Dice wr g A l cap ∧ w.grownBy wr (some g)) (fun i _ => (intOf i).toNat)
 case atStart => exact ⟨1 + k, _, [], by go_num, by simp; omega, CountsOk.nil, P2.out, K2.out, S2.out, G2.out⟩
 case round =>
  obtain ⟨j, u, zs, rfl, ⟨hj1, hj⟩, hco, hbox, hres, hst, hgb⟩ := hrel
  have CO := Lib.hid hco
  have PB := Lib.hid hbox
  have KR := Lib.hid hres
  have HT := Lib.hid hst
  have HG := Lib.hid hgb
  have c1 : wr.cell? ⟨w1.heap.size, 1, none⟩ = some u := hbox.2.2.1.cell 1
  clear hco hbox hres hst hgb
  by_cases hlt : 0 < j
  ·go_wp2_with fail
   go_region_law (first
    | (refine step_append_lies _ (by rfl) _ _ _ (by rfl) (w1.heap.size + 1) 2 i0 _ 1 8 Tryz.underlying24 hi hz0 hz1 hz2 rfl (by omega) u zs.length (zs.map (Value.int .i64)) (by rfl) (PX.out.alloc _).2.2.2.1
        ⟨wx.heap.size, 0, none⟩ 1 1 [.int .i64 (1 + y)] (by rfl) (by rfl) (World.news_of_block (cs := #[.int .i64 (1 + y)]) (t := 2) (fr := (0, 0)) (heap_alloc_new wx _)) (by simp [Value.oneCell'])
        (by omega) (by unfold maxLen; omega) (by omega) (by have := PX.out.2.1; simp; omega) (wx.heap.size + 1) (by simp) ?_
       intro gg cc wy hown hgrow hat hlt2
       have hpg := (PX.out.alloc (.cells #[.int .i64 (1 + y)] 2)).grew (x := 0) (v' := .slice none 0 0) hgrow
       have d1 : wy.cell? ⟨w1.heap.size, 1, none⟩ = some u := hpg.1.cell 1
       have d2 := hpg.1.frozen 1
       have PY := Lib.hid ((PX.out.alloc (.cells #[.int .i64 (1 + y)] 2)).put (v' := .slice (some ⟨gg, 0, none⟩) (zs.length + 1) cc) (by omega) (by omega) hown hgrow)
       have BY := Lib.hid hpg.2
       clear hown hgrow hat hlt2 hpg)
    | (go_simp; go_at_call 15; refine (throw_calls g A l cap 4 _ HN.out ?_ H8.out (by omega)).mono ?_; exact HT.out.drew; rintro e wx ⟨y, rfl, ⟨y0, y1⟩, gx, sx⟩
       have hwy : IntKind.i64.wrap (1 + y) = 1 + y := IntWalk.i64_in _ (by omega)
       have PX := Lib.hid (PB.out.drew.grown gx (by omega))
       have SX := Lib.hid sx
       have GX := Lib.hid (gb_trans (gb_drew HG.out) gx)
       have KX := Lib.hid (KR.out.drew.grown gx (by intro e; injection e with e; omega))
       have e1 : wx.cell? ⟨w1.heap.size, 1, none⟩ = some u := PX.out.2.2.1.cell 1
       have e2 : ∀ o, (wx.alloc o).cell? ⟨w1.heap.size, 1, none⟩ = some u := fun o => (PX.out.alloc o).2.2.1.cell 1
       clear sx gx))
   all_goals
    have SY := Lib.hid (((d8_below SX.out ((Below.refl _ _).alloc (Nat.le_refl _) (.cells #[.int .i64 (1 + y)] 2))).below BY.out (by omega)).set (show g < w1.heap.size by omega) 1 (.slice (some ⟨gg, 0, none⟩) (zs.length + 1) cc))
    have KY := Lib.hid (((CellsAt.grown KX.out (World.grownBy_alloc wx (.cells #[.int .i64 (1 + y)] 2) none) (by simp)).below BY.out (by omega)).grown (gb_set (gb_refl wy (some w1.heap.size)) 1 (.slice (some ⟨gg, 0, none⟩) (zs.length + 1) cc)) (by intro e; injection e with e; omega))
    have GY := Lib.hid (gb_new (gb_blw (gb_alloc GX.out (.cells #[.int .i64 (1 + y)] 2)) (BY.out.mono (by omega))) (show w.heap.size ≤ w1.heap.size by omega) 1 (.slice (some ⟨gg, 0, none⟩) (zs.length + 1) cc))
    have CY := Lib.hid (CO.out.snoc (x := 1 + y) (by omega) (by omega))
    clear SX KX GX BY PX d1 d2 e1 e2
    go_wp2_with fail
    go_roundw
    case rel => exact ⟨j - 1, _, zs ++ [1 + y], by go_num, by simp; omega, CY.out, PY.out, KY.out, SY.out, GY.out⟩
    case measure => simp [intOf]; omega
  ·obtain rfl : j = 0 := by omega
   have c0 : wr.cell? ⟨w1.heap.size, 0, none⟩ = some (.int .i64 (1 + x)) := PB.out.2.2.1.cell 0
   have r0 : wr.cell? ⟨w.heap.size, 0, none⟩ = some (.int .i64 0) := KR.out.cell 0
   have r1 : wr.cell? ⟨w.heap.size, 1, none⟩ = some (.slice none 0 0) := KR.out.cell 1
   have f0 := KR.out.frozen 0
   have f1 := KR.out.frozen 1
   obtain ⟨q, c, hq, -⟩ := PB.out.2.2.2.reads
   have hrow := PB.out.2.2.2
   have hbb := PB.out.1
   have hok : planOk (1 + x) zs := ⟨⟨by omega, by omega⟩, ⟨by omega, by omega⟩, CO.out, by have := upTo_bd CO.out (Nat.le_refl zs.length); omega⟩
   have OK := Lib.hid hok
   clear hok
   subst hq
   go_wp2_with fail
   have HR := Lib.hid ((hrow.grown (gb_set (gb_refl wr (some w.heap.size)) 0 (.int .i64 (1 + x))) (by omega)).grown (gb_set (gb_refl _ (some w.heap.size)) 1 (.slice q zs.length c)) (by omega))
   have HS2 := Lib.hid ((HT.out.set HL 0 (.int .i64 (1 + x))).set HL 1 (.slice q zs.length c))
   have HG2 := Lib.hid (gb_new (gb_new HG.out (Nat.le_refl _) 0 (.int .i64 (1 + x))) (Nat.le_refl _) 1 (.slice q zs.length c))
   have hk := (KR.out.set_ 0 (.int .i64 (1 + x))).set_ 1 (.slice q zs.length c)
   clear hrow PB HT HG c0 c1 r0 r1 f0 f1
   generalize World.setCell _ _ _ = w4 at HR HS2 HG2 hk ⊢
   have d0 : w4.cell? ⟨w.heap.size, 0, none⟩ = some (.int .i64 (1 + x)) := hk.cell 0
   have d1 : w4.cell? ⟨w.heap.size, 1, none⟩ = some (.slice q zs.length c) := hk.cell 1
   exact bodyPost_ret (v := .agg #[.int .i64 (1 + x), .slice q zs.length c]) (by simp [results, Tryz.results12, go_sem, d0, d1]) rfl ⟨_, _, zs, rfl, OK.out, HR.out.mono (by omega), HS2.out, HG2.out⟩
theorem big_no (A : Option Addr) (n cap : Nat) (w : World) (h : n ≤ 4096) :
    Calls Tryz.prog 4 #[.slice A n cap] w fun e w' => e = .returned (.bool false) ∧ w = w' := by
 have h' : ¬ (4096 : Int) < n := by omega
 go_enter Tryz.func4, Tryz.ntmps4
 go_wp2
 go_ret
 exact ⟨by simp, rfl⟩
theorem big_yes (A : Option Addr) (n cap : Nat) (w : World) (h : 4096 < n) :
    Calls Tryz.prog 4 #[.slice A n cap] w fun e w' => e = .returned (.bool true) ∧ w = w' := by
 have h' : (4096 : Int) < n := by omega
 go_enter Tryz.func4, Tryz.ntmps4
 go_wp2
 go_ret
 exact ⟨by simp, rfl⟩
end Go.Proofs.YtjbnknccnhdapaaGreat.Mx

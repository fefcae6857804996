import Derived.Test.YtjbnknccnhdapaaGreatG11
import Derived.Test.YtjbnknccnhdapaaGreatG34
import Derived.Test.YtjbnknccnhdapaaGreatG30
import Derived.Test.YtjbnknccnhdapaaGreatG25
import Derived.Test.YtjbnknccnhdapaaGreatG28
namespace Go.Proofs.YtjbnknccnhdapaaGreat.Mx
open Go.ChangeShapes Go.WideShapes Go.ChangeAt Go.RowKit
set_option linter.unusedVariables false
theorem steps_addM {P : Program} {ρ : Operand → Value} {o : Oper} {t t' : TypeId} {x y : Operand} {w : World} {K : Value → World → Prop} {a b : Int} (hop : o.op = .binOp .add t x y t') (hx : ρ x = .int .i64 a) (hy : ρ y = .int .i64 b) (h : K (.int .i64 (IntKind.i64.wrap (a + b))) w) : stepsTo P ((execOp ρ o).run P w) K := by
 have e2 : (execOp ρ o).run P w = .ok (.value (.int .i64 (IntKind.i64.wrap (a + b)))) w := by
  unfold execOp
  rw [hop]
  simp [hx, hy, eqGuard, binOp, Op.intArith, go_sem]
 rw [e2]
 exact h
theorem Dice.gbn {w w' : World} {g p : Nat} {A : Option Addr} {l : List Int} {cap : Nat} (h : Dice w g A l cap) (hg : w.grownBy w' (some p)) (hp : g < p) : Dice w' g A l cap := by
 obtain ⟨hA, i, x, hi, hc⟩ := h
 exact ⟨hA.gb hg (Nat.le_of_lt hc.lt) (by omega), i, x, hi, hc.grown hg (by intro e; injection e; omega)⟩
def KD (b : World) (g : Nat) (A : Option Addr) (l : List Int) (cap : Nat) (L : List Box) (u : World) : Prop :=
 b.grownBy u (some g) ∧ Dice u g A l cap ∧ g < b.heap.size ∧ ∀ x ∈ L, g < x.1 ∧ CellsAt u x.1 x.2.1 x.2.2
namespace KD
variable {b u u' : World} {g p : Nat} {A : Option Addr} {l : List Int} {cap : Nat} {L : List Box} {t : TypeId} {cs : Array Value}
theorem start (h : Dice b g A l cap) : KD b g A l cap [] b := ⟨gb_refl _ _, h, h.lt, fun x hx => by cases hx⟩
theorem throw (h : KD b g A l cap L u) (hs : Dice u' g A l cap) (hg : u.grownBy u' (some g)) : KD b g A l cap L u' :=
 ⟨gb_trans h.1 hg, hs, h.2.2.1, fun x hx => ⟨(h.2.2.2 x hx).1, (h.2.2.2 x hx).2.grown hg (by intro e; injection e with e; have h1 := (h.2.2.2 x hx).1; omega)⟩⟩
theorem below (h : KD b g A l cap L u) (hb : Below u.heap.size u u') : KD b g A l cap L u' :=
 ⟨gb_blw h.1 (hb.mono h.1.size), h.2.1.below hb (Nat.lt_of_lt_of_le h.2.2.1 h.1.size), h.2.2.1, fun x hx => ⟨(h.2.2.2 x hx).1, (h.2.2.2 x hx).2.below hb (h.2.2.2 x hx).2.lt⟩⟩
theorem drew (h : KD b g A l cap L u) : KD b g A l cap L u.drew := ⟨gb_drew h.1, h.2.1.drew, h.2.2.1, fun x hx => ⟨(h.2.2.2 x hx).1, (h.2.2.2 x hx).2.drew⟩⟩
theorem put1 (h : KD b g A l cap L u) (p : Nat) (t : TypeId) (cs : Array Value) (hp : u.heap.size = p) : KD b g A l cap ((p, t, cs) :: L) (u.alloc (.cells cs t)) := by
 subst hp
 have h' := h.below ((Below.refl _ _).alloc (Nat.le_refl _) (.cells cs t))
 refine ⟨h'.1, h'.2.1, h'.2.2.1, fun x hx => ?_⟩
 rcases List.mem_cons.1 hx with rfl | hx
 ·exact ⟨h.2.1.lt, CellsAt.new u t cs⟩
 ·exact h'.2.2.2 x hx
theorem more (h : KD b g A l cap L u) (hg : g < p) (hc : CellsAt u p t cs) : KD b g A l cap ((p, t, cs) :: L) u := by
 refine ⟨h.1, h.2.1, h.2.2.1, fun x hx => ?_⟩
 rcases List.mem_cons.1 hx with rfl | hx
 ·exact ⟨hg, hc⟩
 ·exact h.2.2.2 x hx
theorem rebase (h : KD b g A l cap L u) : KD u g A l cap L u := ⟨gb_refl _ _, h.2.1, h.2.1.lt, h.2.2.2⟩
theorem rd (h : KD b g A l cap L u) : Rd u L := Rd.of fun x hx => (h.2.2.2 x hx).2
theorem at_ (h : KD b g A l cap L u) (hm : (p, t, cs) ∈ L) : CellsAt u p t cs := (h.2.2.2 _ hm).2
theorem lt (h : KD b g A l cap L u) {x : Box} (hx : x ∈ L) : x.1 < u.heap.size := (h.2.2.2 x hx).2.lt
theorem put (h : KD b g A l cap L u) (hp : b.heap.size ≤ p) (hL : ∀ x ∈ L, x.1 ≠ p) (hg : u.grownBy u' (some p)) : KD b g A l cap L u' := by
 have hgb := h.2.2.1
 exact ⟨gb_put h.1 hg hp, h.2.1.gbn hg (by omega), hgb, fun x hx => ⟨(h.2.2.2 x hx).1, (h.2.2.2 x hx).2.grown hg (by intro e; injection e with e; exact hL x hx e)⟩⟩
end KD
def KV (w : World) (L : List Box) (v u : World) : Prop := Kept w L u ∧ Below v.heap.size v u
theorem KV.step {w v u u' : World} {L : List Box} (h : KV w L v u) (hb : Below u.heap.size u u') : KV w L v u' := ⟨h.1.below hb, h.2.trans (hb.mono h.2.size)⟩
theorem KV.start {w v : World} {L : List Box} (h : Kept w L v) : KV w L v v.drew := ⟨h.drew, (Below.refl _ _).drew⟩
theorem KD.kept {b u w : World} {g : Nat} {A : Option Addr} {l : List Int} {cap : Nat} {L L0 : List Box} (h : KD b g A l cap L u) (hw : w.heap.size ≤ g) (hk : Kept w L0 u) : Kept w (L ++ L0) u := by
 refine ⟨hk.1, fun x hx => ?_⟩
 rcases List.mem_append.1 hx with hx | hx
 ·exact ⟨by have := (h.2.2.2 x hx).1; omega, (h.2.2.2 x hx).2⟩
 ·exact hk.2 x hx
theorem chosenOf_case (key : Int) (l : List Int) (S : List SlN) (n : Int) : chosenOf key l S n = -1 ∨ ∃ j : Nat, j < S.length ∧ chosenOf key l S n = j ∧ slotB key l (S.getD j default).count (S.getD j default).trusts (S.getD j default).mac (S.getD j default).cells = true := by
 unfold chosenOf
 split
 ·rename_i h
  refine .inr ⟨_, h, rfl, ?_⟩
  have h2 := List.findIdx_getElem (w := h)
  rw [List.getD_eq_getElem?_getD, List.getElem?_eq_getElem h]
  unfold choiceB at h2
  simp only [Option.getD_some]
  exact (Bool.and_eq_true _ _ ▸ h2).1
 ·exact .inl rfl
theorem chosen_two {key x : Int} {l : List Int} {a b : SlN} (ha : slotB key l a.count a.trusts a.mac a.cells = true) (hb : slotB key l b.count b.trusts b.mac b.cells = true) (h1 : a.count = 1) (h2 : b.count = x) (hx : 2 ≤ x) :
    chosenOf key l [a, b] 1 = 0 ∧ chosenOf key l [a, b] x = 1 ∧ chosenOf key l [a, b] (x + 1) = -1 := by
 have ca : ∀ n, choiceB key l n a = decide (a.count = n) := fun n => by unfold choiceB; rw [ha, Bool.true_and]
 have cb : ∀ n, choiceB key l n b = decide (b.count = n) := fun n => by unfold choiceB; rw [hb, Bool.true_and]
 refine ⟨chosenOf_at (k := 0) (by simp) (by show choiceB key l 1 a = true; rw [ca, decide_eq_true h1]) (fun j hj => by omega), chosenOf_at (k := 1) (by simp) (by show choiceB key l x b = true; rw [cb, decide_eq_true h2]) (fun j hj => ?_), chosenOf_none (fun j hj => ?_)⟩
 ·obtain rfl : j = 0 := by omega
  show choiceB key l x a = false
  rw [ca, decide_eq_false (by omega)]
 ·simp at hj
  obtain rfl | rfl : j = 0 ∨ j = 1 := by omega
  ·show choiceB key l (x + 1) a = false
   rw [ca, decide_eq_false (by omega)]
  ·show choiceB key l (x + 1) b = false
   rw [cb, decide_eq_false (by omega)]
theorem sealN_yes {key : Int} {l : List Int} {y : Int} {T : List Tru} (h : trustsOk key l T) (h0 : 0 ≤ y) (h1 : y ≤ 10000) : sealN key l y T = (y, T, macOf key l y T) := by unfold sealN; rw [if_pos ⟨h, h0, h1⟩]
theorem slot_right {key : Int} {l : List Int} {y : Int} {T : List Tru} {M : List Ce} (h : trustsOk key l T) (hc : cellsOk key l M) (h0 : 0 ≤ y) (h1 : y ≤ 10000) : slotB key l y T (macOf key l y T) M = true := by
 unfold slotB sealB
 rw [trustsB_yes h, cellsB_yes hc, decide_eq_true ⟨h0, h1⟩, decide_eq_true rfl]; rfl
theorem row_ne {u : World} {b t sz n : Nat} {v : Value} {xs : List Value} {p t' : Nat} {cs : Array Value} (h : u.ownsRow b t sz v n xs) (hc : CellsAt u p t' cs) (ht : t ≠ t') : v.ownBlock = none ∨ v.ownBlock ≠ some p := by
 rcases h.2 with ⟨rfl, _⟩ | ⟨k, cap, cur, rfl, _, hk, _⟩
 ·exact .inl rfl
 ·refine .inr fun e => ?_
  have e3 : k = p := by simpa [Value.ownBlock] using e
  subst e3
  have h2 : u.heap[k]? = some (.cells cs t' (0, 0)) := hc
  rw [hk] at h2
  injection h2 with h2
  injection h2 with h3 h4 h5
  exact ht h4
def D15C (b : World) (g : Nat) (A : Option Addr) (l : List Int) (cap : Nat) (L : List Box) (lo : Nat) (key : Int) (zs : List Int) (T : List Tru) (C : Value) (D : Nat → Bool) (γ : Nat → Value) (u : World) : Prop :=
 KD b g A l cap L u ∧
 (D 6 = true → ∃ (y : Int) (E : Option Addr) (ce : Nat), γ 3 = .int .i64 y ∧ γ 6 = .agg #[.int .i64 y, .slice E T.length ce, .int .i64 (macOf key zs y T)] ∧ TrRow u lo (.slice E T.length ce) T) ∧
 (D 6 = true → D 3 = true) ∧
 (D 10 = true → ∃ p, γ 10 = .pointer (some ⟨p, 0, none⟩) ∧ b.heap.size ≤ p ∧ p < u.heap.size ∧ (∀ x ∈ L, x.1 ≠ p) ∧ ∃ cs, CellsAt u p 32 cs ∧ (D 11 = false → cs = #[.int .i64 0, .slice none 0 0, .int .i64 0, .slice none 0 0]) ∧ (D 11 = true → ∃ x0 x1 x2, γ 6 = .agg #[x0, x1, x2] ∧ cs = #[x0, x1, x2, C])) ∧
 (D 11 = true → D 6 = true ∧ D 10 = true)
section
variable {b u u' : World} {g lo p : Nat} {A : Option Addr} {l : List Int} {cap : Nat} {L : List Box} {key : Int} {zs : List Int} {T : List Tru} {C : Value} {D : Nat → Bool} {γ γ' : Nat → Value}
theorem D15C.loc (ha : ∀ i, D i = true → γ i = γ' i) (h : D15C b g A l cap L lo key zs T C D γ u) : D15C b g A l cap L lo key zs T C D γ' u := by
 obtain ⟨h1, h2, h3, h4, h5⟩ := h
 refine ⟨h1, fun e => ?_, h3, fun e => ?_, h5⟩
 ·rw [← ha 3 (h3 e), ← ha 6 e]; exact h2 e
 ·obtain ⟨p, e1, e2, e3, e4, cs, e5, e6, e7⟩ := h4 e
  rw [← ha 10 e]
  refine ⟨p, e1, e2, e3, e4, cs, e5, e6, fun e8 => ?_⟩
  rw [← ha 6 (h5 e8).1]; exact e7 e8
theorem D15C.start (h : KD b g A l cap L b) : D15C b g A l cap L lo key zs T C (fun _ => false) γ b.drew :=
 ⟨h.drew, fun e => (by cases e), fun e => (by cases e), fun e => (by cases e), fun e => (by cases e)⟩
theorem D15C.throw (h : D15C b g A l cap L lo key zs T C D γ u) (hlo : g < lo) (hs : Dice u' g A l cap) (hg : u.grownBy u' (some g)) {x : Value} : D15C b g A l cap L lo key zs T C (setD D 2) (setG γ 2 x) u' := by
 obtain ⟨h1, h2, h3, h4, h5⟩ := h
 have hgb := h1.2.2.1
 refine ⟨h1.throw hs hg, fun e => ?_, fun e => ?_, fun e => ?_, fun e => ?_⟩
 ·rw [setD_ne (by omega)] at e
  rw [setG_ne (by omega), setG_ne (by omega)]
  obtain ⟨y, E, ce, e1, e2, e3⟩ := h2 e
  exact ⟨y, E, ce, e1, e2, SRow.grown e3 hg hlo⟩
 ·rw [setD_ne (by omega)] at e; rw [setD_ne (by omega)]; exact h3 e
 ·rw [setD_ne (by omega)] at e
  obtain ⟨p, e1, e2, e3, e4, cs, e5, e6, e7⟩ := h4 e
  rw [setG_ne (by omega), setG_ne (by omega), setD_ne (by omega)]
  exact ⟨p, e1, e2, Nat.lt_of_lt_of_le e3 hg.size, e4, cs, e5.grown hg (by intro e; injection e; omega), e6, e7⟩
 ·rw [setD_ne (by omega)] at e; rw [setD_ne (by omega), setD_ne (by omega)]; exact h5 e
theorem D15C.sum (h : D15C b g A l cap L lo key zs T C D γ u) (hD : D 3 = false) {x : Value} : D15C b g A l cap L lo key zs T C (setD D 3) (setG γ 3 x) u := by
 obtain ⟨h1, h2, h3, h4, h5⟩ := h
 refine ⟨h1, fun e => ?_, fun e => setD_self, fun e => ?_, fun e => ?_⟩
 ·rw [setD_ne (by omega)] at e; rw [h3 e] at hD; cases hD
 ·rw [setD_ne (by omega)] at e; rw [setG_ne (by omega), setG_ne (by omega), setD_ne (by omega)]; exact h4 e
 ·rw [setD_ne (by omega)] at e; rw [setD_ne (by omega), setD_ne (by omega)]; exact h5 e
theorem D15C.sealed (h : D15C b g A l cap L lo key zs T C D γ u) (hD : D 6 = false) (h3' : D 3 = true) {y : Int} {E : Option Addr} {ce : Nat} (hy : γ 3 = .int .i64 y) (hb : Below u.heap.size u u') (hr : TrRow u' lo (.slice E T.length ce) T) :
    D15C b g A l cap L lo key zs T C (setD D 6) (setG γ 6 (.agg #[.int .i64 y, .slice E T.length ce, .int .i64 (macOf key zs y T)])) u' := by
 obtain ⟨h1, h2, h3, h4, h5⟩ := h
 refine ⟨h1.below hb, fun e => ?_, fun e => ?_, fun e => ?_, fun e => ?_⟩
 ·rw [setG_ne (by omega), setG_self]; exact ⟨y, E, ce, hy, rfl, hr⟩
 ·rw [setD_ne (by omega)]; exact h3'
 ·rw [setD_ne (by omega)] at e
  obtain ⟨p, e1, e2, e3, e4, cs, e5, e6, e7⟩ := h4 e
  rw [setG_ne (by omega), setD_ne (by omega)]
  exact ⟨p, e1, e2, Nat.lt_of_lt_of_le e3 hb.size, e4, cs, e5.below hb e3, e6, fun e8 => by rw [(h5 e8).1] at hD; cases hD⟩
 ·rw [setD_ne (by omega)] at e; rw [(h5 e).1] at hD; cases hD
theorem D15C.made (h : D15C b g A l cap L lo key zs T C D γ u) (hD : D 10 = false) : D15C b g A l cap L lo key zs T C (setD D 10) (setG γ 10 (.pointer (some ⟨u.heap.size, 0, none⟩))) (u.alloc (.cells #[.int .i64 0, .slice none 0 0, .int .i64 0, .slice none 0 0] 32)) := by
 obtain ⟨h1, h2, h3, h4, h5⟩ := h
 have hb := box_below u (.cells #[.int .i64 0, .slice none 0 0, .int .i64 0, .slice none 0 0] 32)
 refine ⟨h1.below hb, fun e => ?_, fun e => ?_, fun e => ?_, fun e => ?_⟩
 ·rw [setD_ne (by omega)] at e
  rw [setG_ne (by omega), setG_ne (by omega)]
  obtain ⟨y, E, ce, e1, e2, e3⟩ := h2 e
  exact ⟨y, E, ce, e1, e2, SRow.below e3 hb⟩
 ·rw [setD_ne (by omega)] at e; rw [setD_ne (by omega)]; exact h3 e
 ·rw [setG_self, setG_ne (by omega), setD_ne (by omega)]
  exact ⟨u.heap.size, rfl, h1.1.size, by simp, fun x hx => Nat.ne_of_lt (h1.lt hx), _, CellsAt.new u _ _, fun _ => rfl, fun e8 => by rw [(h5 e8).2] at hD; cases hD⟩
 ·rw [setD_ne (by omega)] at e; rw [(h5 e).2] at hD; cases hD
theorem D15C.store (h : D15C b g A l cap L lo key zs T C D γ u) (h6 : D 6 = true) (h10 : D 10 = true) {x0 x1 x2 x : Value} (hp : γ 10 = .pointer (some ⟨p, 0, none⟩)) (hx : γ 6 = .agg #[x0, x1, x2]) (hpb : b.heap.size ≤ p) (hc : CellsAt u' p 32 #[x0, x1, x2, C]) (hg : u.grownBy u' (some p)) : D15C b g A l cap L lo key zs T C (setD D 11) (setG γ 11 x) u' := by
 obtain ⟨h1, h2, h3, h4, h5⟩ := h
 obtain ⟨q, e1, e2, e3, e4, cs, e5, -⟩ := h4 h10
 obtain rfl : p = q := by rw [hp] at e1; simpa using e1
 refine ⟨h1.put hpb e4 hg, fun e => ?_, fun e => ?_, fun e => ?_, fun e => ?_⟩
 ·rw [setG_ne (by omega), setG_ne (by omega)]
  obtain ⟨y, E, ce, e6, e7, e8⟩ := h2 h6
  exact ⟨y, E, ce, e6, e7, SRow.kept e8 hg (row_ne e8 e5 (by decide))⟩
 ·rw [setD_ne (by omega)]; exact h3 h6
 ·rw [setG_ne (by omega), setG_ne (by omega)]
  exact ⟨p, hp, hpb, Nat.lt_of_lt_of_le e3 hg.size, e4, _, hc, fun e => (by rw [setD_self] at e; cases e), fun _ => ⟨x0, x1, x2, hx, rfl⟩⟩
 ·rw [setD_ne (by omega), setD_ne (by omega)]; exact ⟨h6, h10⟩
end
end Go.Proofs.YtjbnknccnhdapaaGreat.Mx

import Derived.Test.YteoijmejhdocdaaGreatDoorG08
import Derived.Test.YteoijmejhdocdaaGreatDoorG09
namespace Go.Proofs.YteoijmejhdocdaaGreatDoor.Mx
open Go.ChangeShapes Go.WideShapes Go.ChangeAt Go.RowKit
set_option linter.unusedVariables false
structure VolN where
  key : Int
  counts : List Int
  trusts : List Tru
  cells : List Ce
  s0 : SlN
  s1 : SlN
  count : Int
abbrev vX (x : VolN) (A : Option Addr) (a : Nat) (B : Option Addr) (b : Nat) (C : Option Addr) (c p o s : Nat) : Array Value := #[.int .i64 x.key, .slice A x.counts.length a, .slice B x.trusts.length b, .slice C x.cells.length c, .slice (some ⟨p, o, none⟩) 2 s, .int .i64 x.count]
def ownTwo (k base t1 z1 n1 : Nat) (xs : List Value) (t2 z2 n2 : Nat) (ys : List Value) (mk : Value → Value → Value) : Own :=
  ⟨k, k, fun v => blkOf (agg1 v) ++ blkOf (agg3 v), fun _ v u => ∃ A c C d, v = mk (.slice A n1 c) (.slice C n2 d) ∧ u.ownsRow base t1 z1 (.slice A n1 c) n1 xs ∧ u.ownsRow base t2 z2 (.slice C n2 d) n2 ys ∧ ∀ g ∈ blkOf (.slice A n1 c), g ∉ blkOf (.slice C n2 d)⟩
theorem ownTwo.stable (k base t1 z1 n1 : Nat) (xs : List Value) (t2 z2 n2 : Nat) (ys : List Value) (mk : Value → Value → Value) (hm : ∀ s t, agg1 (mk s t) = s ∧ agg3 (mk s t) = t) : (ownTwo k base t1 z1 n1 xs t2 z2 n2 ys mk).Stable := by
  intro d v u u' ⟨A, c, C, e, h0, h1, h2, h3⟩ hf
  subst h0
  refine ⟨A, c, C, e, rfl, row_stable h1 (fun g hg => hf g ?_), row_stable h2 (fun g hg => hf g ?_), h3⟩
  · simp only [ownTwo]; rw [(hm _ _).1]; exact List.mem_append_left _ hg
  · simp only [ownTwo]; rw [(hm _ _).2]; exact List.mem_append_right _ hg
def ownArr (k : Nat) (t : TypeId) : Own := ⟨k, k, blkOf, fun _ v u => ∃ g cs, v = .slice (some ⟨g, 0, none⟩) 2 2 ∧ CellsAt u g t cs⟩
theorem ownArr.stable (k : Nat) (t : TypeId) : (ownArr k t).Stable := by
  intro d v u u' ⟨g, cs, e, h⟩ hf
  subst e
  exact ⟨g, cs, rfl, by unfold CellsAt at *; rw [hf g (by simp [ownArr, blkOf])]; exact h⟩
def ArrX (k i j : Nat) (t : TypeId) (c0 m0 c1 m1 : Int) (D : Nat → Bool) (γ : Nat → Value) (u : World) : Prop :=
  D k = true → D i = true ∧ D j = true ∧ ∃ g, γ k = .slice (some ⟨g, 0, none⟩) 2 2 ∧ CellsAt u g t #[.int .i64 c0, agg1 (γ i), .int .i64 m0, agg3 (γ i), .int .i64 c1, agg1 (γ j), .int .i64 m1, agg3 (γ j)]
def Both (P Q : (Nat → Bool) → (Nat → Value) → World → Prop) (D : Nat → Bool) (γ : Nat → Value) (u : World) : Prop := P D γ u ∧ Q D γ u
section
variable {k i j q : Nat} {t : TypeId} {c0 m0 c1 m1 : Int} {D : Nat → Bool} {γ γ' : Nat → Value} {u v : World} {w : Value}
theorem ArrX.loc (ha : ∀ i, D i = true → γ i = γ' i) (h : ArrX k i j t c0 m0 c1 m1 D γ u) : ArrX k i j t c0 m0 c1 m1 D γ' u := by
  intro e
  obtain ⟨h1, h2, g, h3, h4⟩ := h e
  refine ⟨h1, h2, g, by rw [← ha _ e]; exact h3, ?_⟩
  rw [← ha _ h1, ← ha _ h2]; exact h4
theorem ArrX.step (h : ArrX k i j t c0 m0 c1 m1 D γ u) (hD : D q = false) (hq : q ≠ k) (hf : D k = true → ∀ g ∈ blkOf (γ k), v.heap[g]? = u.heap[g]?) : ArrX k i j t c0 m0 c1 m1 (setD D q) (setG γ q w) v := by
  intro e
  have e' : D k = true := by unfold setD at e; simpa [Ne.symm hq] using e
  obtain ⟨h1, h2, g, h3, h4⟩ := h e'
  have ni : i ≠ q := by rintro rfl; rw [hD] at h1; cases h1
  have nj : j ≠ q := by rintro rfl; rw [hD] at h2; cases h2
  unfold setD setG
  rw [if_neg ni, if_neg nj, if_neg (Ne.symm hq)]
  refine ⟨by rw [h1]; simp, by rw [h2]; simp, g, h3, ?_⟩
  unfold CellsAt at *
  rw [hf e' g (by rw [h3]; simp [blkOf])]; exact h4
end
def VolO (u : World) (base : Nat) (x : VolN) (v : Value) : Prop :=
  ∃ A c B d C e g A0 c0 C0 d0 A1 c1 C1 d1, v = .agg (vX x A c B d C e g 0 2) ∧
    IRow u base (.slice A x.counts.length c) x.counts ∧ TrRow u base (.slice B x.trusts.length d) x.trusts ∧ ClRow u base (.slice C x.cells.length e) x.cells ∧ base ≤ g ∧
    CellsAt u g 91 #[.int .i64 x.s0.count, .slice A0 x.s0.trusts.length c0, .int .i64 x.s0.mac, .slice C0 x.s0.cells.length d0, .int .i64 x.s1.count, .slice A1 x.s1.trusts.length c1, .int .i64 x.s1.mac, .slice C1 x.s1.cells.length d1] ∧
    TrRow u base (.slice A0 x.s0.trusts.length c0) x.s0.trusts ∧ ClRow u base (.slice C0 x.s0.cells.length d0) x.s0.cells ∧ TrRow u base (.slice A1 x.s1.trusts.length c1) x.s1.trusts ∧ ClRow u base (.slice C1 x.s1.cells.length d1) x.s1.cells ∧
    [blkOf (.slice A x.counts.length c), blkOf (.slice B x.trusts.length d), blkOf (.slice C x.cells.length e), [g], blkOf (.slice A0 x.s0.trusts.length c0), blkOf (.slice C0 x.s0.cells.length d0), blkOf (.slice A1 x.s1.trusts.length c1), blkOf (.slice C1 x.s1.cells.length d1)].Pairwise fun a b => ∀ y ∈ a, y ∉ b
def NewVol (b : World) (x : VolN) (e : Ending) (w' : World) : Prop := ∃ v, e = .returned v ∧ VolO w' b.heap.size x v ∧ Below b.heap.size b w'
def VolN.Short (x : VolN) : Prop := x.counts.length ≤ 1048576 ∧ x.trusts.length ≤ 1048576 ∧ x.cells.length ≤ 1048576 ∧ x.s0.trusts.length ≤ 1048576 ∧ x.s0.cells.length ≤ 1048576 ∧ x.s1.trusts.length ≤ 1048576 ∧ x.s1.cells.length ≤ 1048576
theorem info_slot : (Tryz.prog.info? 91).map (fun i => (i.zero, i.size, i.bytes)) = some (some (.agg #[.int .i64 0, .slice none 0 0, .int .i64 0, .slice none 0 0]), 4, 64) := by kernel_rfl
set_option maxRecDepth 20000 in
set_option maxHeartbeats 8000000 in
theorem l12Copy_calls (x : VolN) (A : Option Addr) (cap : Nat) (B : Option Addr) (tc : Nat) (C : Option Addr) (cc : Nat) (b off sc : Nat) (w : World) (hx : x.Short)
    (hA : Ints w .i64 w.heap.size A x.counts) (hB : Trs w w.heap.size B x.trusts) (hC : Cls w w.heap.size C x.cells) (hb : b < w.heap.size) (h0 : SlotAt w w.heap.size b off x.s0) (h1 : SlotAt w w.heap.size b (off + 4) x.s1) :
    Calls Tryz.prog 99 #[.agg (vX x A cap B tc C cc b off sc)] w (NewVol w x) := by
  have K0 := Lib.hid (show Kept w [(w.heap.size + 1, 31, zV), (w.heap.size, 31, (vX x A cap B tc C cc b off sc))] _ from (((Kept.refl w).put1 _ _ (vX x A cap B tc C cc b off sc) rfl).put1 _ _ zV (by simp)))
  obtain ⟨x1, x2, x3, x4, x5, x6, x7⟩ := hx
  have PC := Lib.hid (fun (u : World) (hb : Below w.heap.size w u) => l5Copy_calls x.key A x.counts cap u x1 ((hA.below hb (Nat.le_refl _)).more hb.size))
  have TC := Lib.hid (fun (u : World) (hb : Below w.heap.size w u) => l10Copy_calls B x.trusts tc u x2 ((hB.below hb (Nat.le_refl _)).more hb.size))
  have NW := Lib.hid (fun (u : World) (hb : Below w.heap.size w u) => Sls.news ceV_len (by omega) (hC.below hb (Nat.le_refl _)))
  obtain ⟨B0, t0, D0, q0, k0, k1, k2, k3, hr0⟩ := h0
  obtain ⟨B1, t1, D1, q1, k4, k5, k6, k7, hr1⟩ := h1
  rw [show off + 4 + 1 = off + 5 by omega] at k5
  rw [show off + 4 + 2 = off + 6 by omega] at k6
  rw [show off + 4 + 3 = off + 7 by omega] at k7
  have S0 := Lib.hid (fun (u : World) (hb : Below w.heap.size w u) => l11Copy_calls x.s0.count B0 x.s0.trusts t0 x.s0.mac D0 x.s0.cells q0 u x4 ((hr0.1.below hb (Nat.le_refl _)).more hb.size) x5 ((hr0.2.below hb (Nat.le_refl _)).more hb.size))
  have S1 := Lib.hid (fun (u : World) (hb : Below w.heap.size w u) => l11Copy_calls x.s1.count B1 x.s1.trusts t1 x.s1.mac D1 x.s1.cells q1 u x6 ((hr1.1.below hb (Nat.le_refl _)).more hb.size) x7 ((hr1.2.below hb (Nat.le_refl _)).more hb.size))
  clear hA hB hC hr0 hr1
  go_enter Tryz.func99, Tryz.ntmps99
  go_upto_region 1 with fail
  have hk := K0.out
  generalize (w.alloc _).alloc _ = w0 at hk ⊢
  have lm0 : w.heap.size < w0.heap.size := hk.lt (x := (w.heap.size, 31, (vX x A cap B tc C cc b off sc))) (by simp)
  have lm1 : w.heap.size + 1 < w0.heap.size := hk.lt (x := (w.heap.size + 1, 31, zV)) (by simp)
  have hn0 : Kept w [(w.heap.size, 31, (vX x A cap B tc C cc b off sc))] _ := hk.sub (by intro y hy; simp at hy ⊢; subst hy; simp)
  have hcz := hk.at_ (p := w.heap.size + 1) (t := 31) (cs := zV) (by simp)
  have hok : OutB.Ok (⟨w.heap.size + 1, 31, 6, 24, [2, 5, 9, 20], fun γ => #[.int .i64 x.key, agg1 (γ 2), γ 5, γ 9, γ 20, .int .i64 x.count]⟩ : OutB) w (w0.heap.size) [(w.heap.size, 31, (vX x A cap B tc C cc b off sc))] := ⟨by simp only [] <;> omega, by simp only [] <;> omega, by intro y hy; simp only [List.mem_cons, List.not_mem_nil, or_false] at hy; subst hy <;> (simp only []; omega), fun γ γ' ha => by simp only []; rw [ha 2 (by simp), ha 5 (by simp), ha 9 (by simp), ha 20 (by simp)], fun γ => rfl, by simp⟩
  have hstab : ∀ zz ∈ ([ownIn 2 w.heap.size 2 1 x.counts.length (x.counts.map (Value.int .i64)) (fun s => .agg #[.int .i64 x.key, s]), ownRow 5 w.heap.size 94 8 x.trusts.length (flatS truV x.trusts), ownNil 6 9 w.heap.size 118 2, ownRow 9 w.heap.size 118 2 x.cells.length (flatS ceV x.cells), ownTwo 14 w.heap.size 94 8 x.s0.trusts.length (flatS truV x.s0.trusts) 118 2 x.s0.cells.length (flatS ceV x.s0.cells) (fun s t => .agg #[.int .i64 x.s0.count, s, .int .i64 x.s0.mac, t]), ownTwo 19 w.heap.size 94 8 x.s1.trusts.length (flatS truV x.s1.trusts) 118 2 x.s1.cells.length (flatS ceV x.s1.cells) (fun s t => .agg #[.int .i64 x.s1.count, s, .int .i64 x.s1.mac, t]), ownArr 20 91] : List Own), zz.Stable := by
    intro y hy
    simp only [List.mem_cons, List.not_mem_nil, or_false] at hy
    rcases hy with rfl | rfl | rfl | rfl | rfl | rfl | rfl
    · exact ownIn.stable _ _ _ _ _ _ _ (fun s => rfl)
    · exact ownRow.stable _ _ _ _ _ _
    · exact ownNil.stable _ _ _ _ _
    · exact ownRow.stable _ _ _ _ _ _
    · exact ownTwo.stable _ _ _ _ _ _ _ _ _ _ _ (fun s t => ⟨rfl, rfl⟩)
    · exact ownTwo.stable _ _ _ _ _ _ _ _ _ _ _ (fun s t => ⟨rfl, rfl⟩)
    · exact ownArr.stable _ _
  have hstart : ∀ γ, OwnR w (w0.heap.size) [(w.heap.size, 31, (vX x A cap B tc C cc b off sc))] [ownIn 2 w.heap.size 2 1 x.counts.length (x.counts.map (Value.int .i64)) (fun s => .agg #[.int .i64 x.key, s]), ownRow 5 w.heap.size 94 8 x.trusts.length (flatS truV x.trusts), ownNil 6 9 w.heap.size 118 2, ownRow 9 w.heap.size 118 2 x.cells.length (flatS ceV x.cells), ownTwo 14 w.heap.size 94 8 x.s0.trusts.length (flatS truV x.s0.trusts) 118 2 x.s0.cells.length (flatS ceV x.s0.cells) (fun s t => .agg #[.int .i64 x.s0.count, s, .int .i64 x.s0.mac, t]), ownTwo 19 w.heap.size 94 8 x.s1.trusts.length (flatS truV x.s1.trusts) 118 2 x.s1.cells.length (flatS ceV x.s1.cells) (fun s t => .agg #[.int .i64 x.s1.count, s, .int .i64 x.s1.mac, t]), ownArr 20 91] (fun i j => (i == 6 && j == 9) || (i == 9 && j == 6)) (⟨w.heap.size + 1, 31, 6, 24, [2, 5, 9, 20], fun γ => #[.int .i64 x.key, agg1 (γ 2), γ 5, γ 9, γ 20, .int .i64 x.count]⟩ : OutB) (fun _ => false) γ _ := fun γ => OwnR.start hn0 hn0.1.size (Nat.le_refl _) (by intro y hy; simp only [List.mem_cons, List.not_mem_nil, or_false] at hy; subst hy <;> (simp only []; omega)) hcz rfl
  refine wp_region_free [false, false, true, false, false, true, true, false, false, true, false, false, false, false, true, false, false, false, false, true, true, false, false, false, true] (ShL [(2, fun v => ∃ (A : Option Addr) (c : Nat), v = .agg (pA x.key A x.counts.length c)), (5, fun v => ∃ (A : Option Addr) (c : Nat), v = .slice A x.trusts.length c), (6, fun v => ∃ g : Nat, v = .slice (some ⟨g, 0, none⟩) 0 0), (9, fun v => ∃ (A : Option Addr) (c : Nat), v = .slice A x.cells.length c), (14, fun v => ∃ (A : Option Addr) (c : Nat) (C : Option Addr) (d : Nat), v = .agg #[.int .i64 x.s0.count, .slice A x.s0.trusts.length c, .int .i64 x.s0.mac, .slice C x.s0.cells.length d]), (19, fun v => ∃ (A : Option Addr) (c : Nat) (C : Option Addr) (d : Nat), v = .agg #[.int .i64 x.s1.count, .slice A x.s1.trusts.length c, .int .i64 x.s1.mac, .slice C x.s1.cells.length d]), (20, fun v => ∃ g : Nat, v = .slice (some ⟨g, 0, none⟩) 2 2)]) (Both (fun D γ u => OwnR w (w0.heap.size) [(w.heap.size, 31, (vX x A cap B tc C cc b off sc))] [ownIn 2 w.heap.size 2 1 x.counts.length (x.counts.map (Value.int .i64)) (fun s => .agg #[.int .i64 x.key, s]), ownRow 5 w.heap.size 94 8 x.trusts.length (flatS truV x.trusts), ownNil 6 9 w.heap.size 118 2, ownRow 9 w.heap.size 118 2 x.cells.length (flatS ceV x.cells), ownTwo 14 w.heap.size 94 8 x.s0.trusts.length (flatS truV x.s0.trusts) 118 2 x.s0.cells.length (flatS ceV x.s0.cells) (fun s t => .agg #[.int .i64 x.s0.count, s, .int .i64 x.s0.mac, t]), ownTwo 19 w.heap.size 94 8 x.s1.trusts.length (flatS truV x.s1.trusts) 118 2 x.s1.cells.length (flatS ceV x.s1.cells) (fun s t => .agg #[.int .i64 x.s1.count, s, .int .i64 x.s1.mac, t]), ownArr 20 91] (fun i j => (i == 6 && j == 9) || (i == 9 && j == 6)) (⟨w.heap.size + 1, 31, 6, 24, [2, 5, 9, 20], fun γ => #[.int .i64 x.key, agg1 (γ 2), γ 5, γ 9, γ 20, .int .i64 x.count]⟩ : OutB) D γ u) (ArrX 20 14 19 91 x.s0.count x.s0.mac x.s1.count x.s1.mac)) (by kernel_rfl) (by kernel_rfl) (fun γ => by kernel_rfl) (fun D γ γ' w ha h => ⟨h.1.loc hok ha, h.2.loc ha⟩) (ShL.inh _ ?inh) (fun γ => ⟨hstart γ, fun e => (by cases e)⟩) (fun γ hγ => ?_)
  case inh =>
    intro y hy
    simp only [List.mem_cons, List.not_mem_nil, or_false] at hy
    rcases hy with rfl | rfl | rfl | rfl | rfl | rfl | rfl
    · exact ⟨_, none, 0, rfl⟩
    · exact ⟨_, none, 0, rfl⟩
    · exact ⟨_, 0, rfl⟩
    · exact ⟨_, none, 0, rfl⟩
    · exact ⟨_, none, 0, none, 0, rfl⟩
    · exact ⟨_, none, 0, none, 0, rfl⟩
    · exact ⟨_, 0, rfl⟩
  clear hstart hn0 hcz
  obtain ⟨A2, c2, g2⟩ : ∃ (A : Option Addr) (c : Nat), γ 2 = .agg (pA x.key A x.counts.length c) := hγ 2 rfl
  obtain ⟨A4, c4, g5⟩ : ∃ (A : Option Addr) (c : Nat), γ 5 = .slice A x.trusts.length c := hγ 5 rfl
  obtain ⟨gn, g6⟩ : ∃ g : Nat, γ 6 = .slice (some ⟨g, 0, none⟩) 0 0 := hγ 6 rfl
  obtain ⟨A9, c9, g9⟩ : ∃ (A : Option Addr) (c : Nat), γ 9 = .slice A x.cells.length c := hγ 9 rfl
  obtain ⟨A0, c0, C0, d0', g14⟩ : ∃ (A : Option Addr) (c : Nat) (C : Option Addr) (d : Nat), γ 14 = .agg #[.int .i64 x.s0.count, .slice A x.s0.trusts.length c, .int .i64 x.s0.mac, .slice C x.s0.cells.length d] := hγ 14 rfl
  obtain ⟨A1, c1, C1, d1', g19⟩ : ∃ (A : Option Addr) (c : Nat) (C : Option Addr) (d : Nat), γ 19 = .agg #[.int .i64 x.s1.count, .slice A x.s1.trusts.length c, .int .i64 x.s1.mac, .slice C x.s1.cells.length d] := hγ 19 rfl
  obtain ⟨ga, g20⟩ : ∃ g : Nat, γ 20 = .slice (some ⟨g, 0, none⟩) 2 2 := hγ 20 rfl
  have g24 : γ 24 = undef := hγ 24 rfl
  clear hk
  apply Exists.intro
  refine ⟨fun D => ?_, ?_, ?_⟩
  · simp only [hushL, cond_true, cond_false, Nat.reduceAdd, g2, g5, g6, g9, g14, g19, g20, g24]
    iterate 25 (first
      | go_big_quiet_skip
      | (go_big_quiet_want
         go_big_quiet_op
         first
           | go_big_quiet_on
           | (apply Exists.intro
              refine ⟨fun u hu => ?_, ?_⟩
              · first
                  | with_reducible rfl
                  | (obtain ⟨kc0, kf0, -⟩ := hu.1.1.1.1.rd; have e0 := (hu.1.1.1.1.1.cell (p := ⟨b, off, none⟩) hb).trans k0; have e1 := (hu.1.1.1.1.1.cell (p := ⟨b, off + 1, none⟩) hb).trans k1; have e2 := (hu.1.1.1.1.1.cell (p := ⟨b, off + 2, none⟩) hb).trans k2; have e3 := (hu.1.1.1.1.1.cell (p := ⟨b, off + 3, none⟩) hb).trans k3; have e4 := (hu.1.1.1.1.1.cell (p := ⟨b, off + 4, none⟩) hb).trans k4; have e5 := (hu.1.1.1.1.1.cell (p := ⟨b, off + 5, none⟩) hb).trans k5; have e6 := (hu.1.1.1.1.1.cell (p := ⟨b, off + 6, none⟩) hb).trans k6; have e7 := (hu.1.1.1.1.1.cell (p := ⟨b, off + 7, none⟩) hb).trans k7; go_simp; first | done | with_reducible rfl)
              go_big_quiet_on)))
    exact wpQuiet_nil rfl
  · simp only [freeOk, Nat.reduceAdd]
    refine ⟨fun D u hD hd hu => ?_, fun D u hD hd hu => ?_, fun D u hD hd hu => ?_, fun D u hD hd hu => ?_, fun D u hD hd hu => ?_, fun D u hD hd hu => ?_, fun D u hD hd hu => ?_, fun D u hD hd hu => ?_, trivial⟩
    · refine steps_call ((PC.out u hu.1.1.1.1.1).mono ?_) rfl rfl rfl rfl (by kernel_rfl)
      rintro e w' ⟨A5, c5, rfl, hrow, hb⟩
      refine ⟨_, rfl, ⟨A5, c5, rfl⟩, ?_⟩
      exact ⟨hu.1.made hok hstab (z := ownIn 2 w.heap.size 2 1 x.counts.length (x.counts.map (Value.int .i64)) (fun s => .agg #[.int .i64 x.key, s])) (by simp) (by intro y hy; simp only [List.mem_cons, List.not_mem_nil, or_false] at hy; rcases hy with rfl | rfl | rfl | rfl | rfl | rfl | rfl; exact .inl rfl; exact .inr ⟨(Nat.ne_of_beq_eq_false rfl), (Nat.ne_of_beq_eq_false rfl)⟩; exact .inr ⟨(Nat.ne_of_beq_eq_false rfl), (Nat.ne_of_beq_eq_false rfl)⟩; exact .inr ⟨(Nat.ne_of_beq_eq_false rfl), (Nat.ne_of_beq_eq_false rfl)⟩; exact .inr ⟨(Nat.ne_of_beq_eq_false rfl), (Nat.ne_of_beq_eq_false rfl)⟩; exact .inr ⟨(Nat.ne_of_beq_eq_false rfl), (Nat.ne_of_beq_eq_false rfl)⟩; exact .inr ⟨(Nat.ne_of_beq_eq_false rfl), (Nat.ne_of_beq_eq_false rfl)⟩) hD (Nat.ne_of_beq_eq_false rfl) hb ⟨A5, c5, rfl, row_mono hrow hu.1.1.1.1.1.size⟩ (fun g hg => row_fresh hrow g hg), hu.2.step hD (Nat.ne_of_beq_eq_false rfl) (fun d g hg => hb.block g ((hu.1.1.at_ (z := ownArr 20 91) (by simp) d).2 g hg).2)⟩
    · refine steps_call ((TC.out u hu.1.1.1.1.1).mono ?_) rfl rfl rfl rfl (by kernel_rfl)
      rintro e w' ⟨v5, rfl, hrow, hb⟩
      obtain ⟨A5, c5, rfl, _, _⟩ := hrow.reads truV_len
      refine ⟨_, rfl, ⟨A5, c5, rfl⟩, ?_⟩
      exact ⟨hu.1.made hok hstab (z := ownRow 5 w.heap.size 94 8 x.trusts.length (flatS truV x.trusts)) (by simp) (by intro y hy; simp only [List.mem_cons, List.not_mem_nil, or_false] at hy; rcases hy with rfl | rfl | rfl | rfl | rfl | rfl | rfl; exact .inr ⟨(Nat.ne_of_beq_eq_false rfl), (Nat.ne_of_beq_eq_false rfl)⟩; exact .inl rfl; exact .inr ⟨(Nat.ne_of_beq_eq_false rfl), (Nat.ne_of_beq_eq_false rfl)⟩; exact .inr ⟨(Nat.ne_of_beq_eq_false rfl), (Nat.ne_of_beq_eq_false rfl)⟩; exact .inr ⟨(Nat.ne_of_beq_eq_false rfl), (Nat.ne_of_beq_eq_false rfl)⟩; exact .inr ⟨(Nat.ne_of_beq_eq_false rfl), (Nat.ne_of_beq_eq_false rfl)⟩; exact .inr ⟨(Nat.ne_of_beq_eq_false rfl), (Nat.ne_of_beq_eq_false rfl)⟩) hD (Nat.ne_of_beq_eq_false rfl) hb (row_mono hrow hu.1.1.1.1.1.size) (fun g hg => row_fresh hrow g hg), hu.2.step hD (Nat.ne_of_beq_eq_false rfl) (fun d g hg => hb.block g ((hu.1.1.at_ (z := ownArr 20 91) (by simp) d).2 g hg).2)⟩
    · refine steps_buildNil 28 118 rfl Tryz.underlying28 (by kernel_rfl) ?_
      refine ⟨⟨_, rfl⟩, ?_⟩
      have hb : Below u.heap.size u (u.alloc (.cells #[] 118)) := (Below.refl _ _).alloc (Nat.le_refl _) _
      exact ⟨hu.1.made hok hstab (z := ownNil 6 9 w.heap.size 118 2) (by simp) (by intro y hy; simp only [List.mem_cons, List.not_mem_nil, or_false] at hy; rcases hy with rfl | rfl | rfl | rfl | rfl | rfl | rfl; exact .inr ⟨(Nat.ne_of_beq_eq_false rfl), (Nat.ne_of_beq_eq_false rfl)⟩; exact .inr ⟨(Nat.ne_of_beq_eq_false rfl), (Nat.ne_of_beq_eq_false rfl)⟩; exact .inl rfl; exact .inr ⟨(Nat.ne_of_beq_eq_false rfl), (Nat.ne_of_beq_eq_false rfl)⟩; exact .inr ⟨(Nat.ne_of_beq_eq_false rfl), (Nat.ne_of_beq_eq_false rfl)⟩; exact .inr ⟨(Nat.ne_of_beq_eq_false rfl), (Nat.ne_of_beq_eq_false rfl)⟩; exact .inr ⟨(Nat.ne_of_beq_eq_false rfl), (Nat.ne_of_beq_eq_false rfl)⟩) hD (Nat.ne_of_beq_eq_false rfl) hb (fun _ => ⟨_, rfl, World.ownsRow_made u #[] 0 hu.1.1.1.1.1.size (by simp [maxLen]) (by simp)⟩) (by intro g hg; simp only [ownNil, List.mem_singleton] at hg; subst hg; exact ⟨Nat.le_refl _, by simp⟩), hu.2.step hD (Nat.ne_of_beq_eq_false rfl) (fun d g hg => hb.block g ((hu.1.1.at_ (z := ownArr 20 91) (by simp) d).2 g hg).2)⟩
    · have d3 := hd { on := 6, ground := Ground.data } (by simp) rfl rfl
      obtain ⟨h3, -⟩ := hu.1.1.at_ (z := ownNil 6 9 w.heap.size 118 2) (by simp) d3
      obtain ⟨g0, e0, hown0⟩ := h3 hD
      have e1 : γ 6 = .slice (some ⟨g0, 0, none⟩) 0 0 := e0
      obtain rfl : gn = g0 := by rw [g6] at e1; simpa using e1
      have hown1 : u.ownsRow w.heap.size 118 2 (γ 6) 0 [] := hown0
      rw [g6] at hown1
      have hfar : D 20 = true → ∀ g ∈ blkOf (γ 20), g ∉ blkOf (γ 6) := fun d g hg => hu.1.1.2.2.2.2.2.2.1 (ownArr 20 91) (by simp) (ownNil 6 9 w.heap.size 118 2) (by simp) (Nat.ne_of_beq_eq_false rfl) rfl d d3 g hg
      rw [g6] at hfar
      refine steps_append _ _ 28 rfl w.heap.size 118 2 16 0 (.agg zC) (.slice (some ⟨gn, 0, none⟩) 0 0) [] C x.cells.length cc (flatS ceV x.cells) Tryz.underlying28 info_cel rfl (by omega) rfl hown1 rfl (flatS_length ceV_len) (NW.out u hu.1.1.1.1.1) (ceV_one x.cells) (by unfold maxLen; omega) (by omega) hu.1.1.1.1.1.size ?_
      intro v' w' hown hg hb2
      have hrow : ClRow w' w.heap.size v' x.cells := by have h := hown; simp only [Nat.zero_add, List.nil_append] at h; exact h
      obtain ⟨A6, c6, rfl, _, _⟩ := hrow.reads ceV_len
      refine ⟨⟨A6, c6, rfl⟩, ?_⟩
      refine ⟨hu.1.moved hok hstab (y := ownNil 6 9 w.heap.size 118 2) (z := ownRow 9 w.heap.size 118 2 x.cells.length (flatS ceV x.cells)) (p := gn) (by simp) (by simp) rfl rfl d3 (by intro y hy; simp only [List.mem_cons, List.not_mem_nil, or_false] at hy; rcases hy with rfl | rfl | rfl | rfl | rfl | rfl | rfl; exact .inr (.inr ⟨(Nat.ne_of_beq_eq_false rfl), (Nat.ne_of_beq_eq_false rfl), (Nat.ne_of_beq_eq_false rfl), rfl, rfl⟩); exact .inr (.inr ⟨(Nat.ne_of_beq_eq_false rfl), (Nat.ne_of_beq_eq_false rfl), (Nat.ne_of_beq_eq_false rfl), rfl, rfl⟩); exact .inr (.inl rfl); exact .inl rfl; exact .inr (.inr ⟨(Nat.ne_of_beq_eq_false rfl), (Nat.ne_of_beq_eq_false rfl), (Nat.ne_of_beq_eq_false rfl), rfl, rfl⟩); exact .inr (.inr ⟨(Nat.ne_of_beq_eq_false rfl), (Nat.ne_of_beq_eq_false rfl), (Nat.ne_of_beq_eq_false rfl), rfl, rfl⟩); exact .inr (.inr ⟨(Nat.ne_of_beq_eq_false rfl), (Nat.ne_of_beq_eq_false rfl), (Nat.ne_of_beq_eq_false rfl), rfl, rfl⟩)) (Nat.ne_of_beq_eq_false rfl) ⟨rfl, rfl⟩ hD (Nat.ne_of_beq_eq_false rfl) (show blkOf (γ 6) = [gn] by rw [g6]; rfl) hg hrow (fun e => by cases e) ?_ ?_, hu.2.step hD (Nat.ne_of_beq_eq_false rfl) (fun d g hgf => hg.block g ((hu.1.1.at_ (z := ownArr 20 91) (by simp) d).2 g hgf).2 (by intro e; injection e with e; exact hfar d g hgf (by rw [e]; simp [blkOf])))⟩
      · intro g hgf
        rcases hb2 with h | h
        · left
          cases A6 with
          | none => cases hgf
          | some a => simp [Value.ownBlock] at h; simp only [ownRow, List.mem_singleton] at hgf; omega
        · right
          cases A6 with
          | none => cases hgf
          | some a => simp [Value.ownBlock] at h; simp only [ownRow, List.mem_singleton] at hgf; omega
      · intro g hgf
        cases A6 with
        | none => cases hgf
        | some a => simp only [ownRow, List.mem_singleton] at hgf; subst hgf; exact (hrow.lt rfl).2
    · refine steps_call ((S0.out u hu.1.1.1.1.1).mono ?_) rfl rfl rfl rfl (by kernel_rfl)
      rintro e w' ⟨A5, c5, C5, d5, rfl, hr1, hr2, hdj, hb⟩
      refine ⟨_, rfl, ⟨A5, c5, C5, d5, rfl⟩, ?_⟩
      exact ⟨hu.1.made hok hstab (z := ownTwo 14 w.heap.size 94 8 x.s0.trusts.length (flatS truV x.s0.trusts) 118 2 x.s0.cells.length (flatS ceV x.s0.cells) (fun s t => .agg #[.int .i64 x.s0.count, s, .int .i64 x.s0.mac, t])) (by simp) (by intro y hy; simp only [List.mem_cons, List.not_mem_nil, or_false] at hy; rcases hy with rfl | rfl | rfl | rfl | rfl | rfl | rfl; exact .inr ⟨(Nat.ne_of_beq_eq_false rfl), (Nat.ne_of_beq_eq_false rfl)⟩; exact .inr ⟨(Nat.ne_of_beq_eq_false rfl), (Nat.ne_of_beq_eq_false rfl)⟩; exact .inr ⟨(Nat.ne_of_beq_eq_false rfl), (Nat.ne_of_beq_eq_false rfl)⟩; exact .inr ⟨(Nat.ne_of_beq_eq_false rfl), (Nat.ne_of_beq_eq_false rfl)⟩; exact .inl rfl; exact .inr ⟨(Nat.ne_of_beq_eq_false rfl), (Nat.ne_of_beq_eq_false rfl)⟩; exact .inr ⟨(Nat.ne_of_beq_eq_false rfl), (Nat.ne_of_beq_eq_false rfl)⟩) hD (Nat.ne_of_beq_eq_false rfl) hb ⟨A5, c5, C5, d5, rfl, row_mono hr1 hu.1.1.1.1.1.size, row_mono hr2 hu.1.1.1.1.1.size, hdj⟩ (fun g hg => by rcases List.mem_append.1 hg with h | h; exact row_fresh hr1 g h; exact row_fresh hr2 g h), hu.2.step hD (Nat.ne_of_beq_eq_false rfl) (fun d g hg => hb.block g ((hu.1.1.at_ (z := ownArr 20 91) (by simp) d).2 g hg).2)⟩
    · refine steps_call ((S1.out u hu.1.1.1.1.1).mono ?_) rfl rfl rfl rfl (by kernel_rfl)
      rintro e w' ⟨A5, c5, C5, d5, rfl, hr1, hr2, hdj, hb⟩
      refine ⟨_, rfl, ⟨A5, c5, C5, d5, rfl⟩, ?_⟩
      exact ⟨hu.1.made hok hstab (z := ownTwo 19 w.heap.size 94 8 x.s1.trusts.length (flatS truV x.s1.trusts) 118 2 x.s1.cells.length (flatS ceV x.s1.cells) (fun s t => .agg #[.int .i64 x.s1.count, s, .int .i64 x.s1.mac, t])) (by simp) (by intro y hy; simp only [List.mem_cons, List.not_mem_nil, or_false] at hy; rcases hy with rfl | rfl | rfl | rfl | rfl | rfl | rfl; exact .inr ⟨(Nat.ne_of_beq_eq_false rfl), (Nat.ne_of_beq_eq_false rfl)⟩; exact .inr ⟨(Nat.ne_of_beq_eq_false rfl), (Nat.ne_of_beq_eq_false rfl)⟩; exact .inr ⟨(Nat.ne_of_beq_eq_false rfl), (Nat.ne_of_beq_eq_false rfl)⟩; exact .inr ⟨(Nat.ne_of_beq_eq_false rfl), (Nat.ne_of_beq_eq_false rfl)⟩; exact .inr ⟨(Nat.ne_of_beq_eq_false rfl), (Nat.ne_of_beq_eq_false rfl)⟩; exact .inl rfl; exact .inr ⟨(Nat.ne_of_beq_eq_false rfl), (Nat.ne_of_beq_eq_false rfl)⟩) hD (Nat.ne_of_beq_eq_false rfl) hb ⟨A5, c5, C5, d5, rfl, row_mono hr1 hu.1.1.1.1.1.size, row_mono hr2 hu.1.1.1.1.1.size, hdj⟩ (fun g hg => by rcases List.mem_append.1 hg with h | h; exact row_fresh hr1 g h; exact row_fresh hr2 g h), hu.2.step hD (Nat.ne_of_beq_eq_false rfl) (fun d g hg => hb.block g ((hu.1.1.at_ (z := ownArr 20 91) (by simp) d).2 g hg).2)⟩
    · have d14 := hd { on := 14, ground := Ground.data } (by simp) rfl rfl
      have d19 := hd { on := 19, ground := Ground.data } (by simp) rfl rfl
      refine steps_build 29 91 2 4 64 (.agg #[.int .i64 0, .slice none 0 0, .int .i64 0, .slice none 0 0]) _ #[.int .i64 x.s0.count, .slice A0 x.s0.trusts.length c0, .int .i64 x.s0.mac, .slice C0 x.s0.cells.length d0', .int .i64 x.s1.count, .slice A1 x.s1.trusts.length c1, .int .i64 x.s1.mac, .slice C1 x.s1.cells.length d1'] rfl Tryz.underlying29 info_slot (by omega) (by omega) (by simp [Instr.fill, Value.cells, go_sem]) ⟨⟨_, rfl⟩, ?_⟩
      have hb : Below u.heap.size u (u.alloc (.cells #[.int .i64 x.s0.count, .slice A0 x.s0.trusts.length c0, .int .i64 x.s0.mac, .slice C0 x.s0.cells.length d0', .int .i64 x.s1.count, .slice A1 x.s1.trusts.length c1, .int .i64 x.s1.mac, .slice C1 x.s1.cells.length d1'] 91)) := (Below.refl _ _).alloc (Nat.le_refl _) _
      refine ⟨hu.1.made hok hstab (z := ownArr 20 91) (by simp) (by intro y hy; simp only [List.mem_cons, List.not_mem_nil, or_false] at hy; rcases hy with rfl | rfl | rfl | rfl | rfl | rfl | rfl; exact .inr ⟨(Nat.ne_of_beq_eq_false rfl), (Nat.ne_of_beq_eq_false rfl)⟩; exact .inr ⟨(Nat.ne_of_beq_eq_false rfl), (Nat.ne_of_beq_eq_false rfl)⟩; exact .inr ⟨(Nat.ne_of_beq_eq_false rfl), (Nat.ne_of_beq_eq_false rfl)⟩; exact .inr ⟨(Nat.ne_of_beq_eq_false rfl), (Nat.ne_of_beq_eq_false rfl)⟩; exact .inr ⟨(Nat.ne_of_beq_eq_false rfl), (Nat.ne_of_beq_eq_false rfl)⟩; exact .inr ⟨(Nat.ne_of_beq_eq_false rfl), (Nat.ne_of_beq_eq_false rfl)⟩; exact .inl rfl) hD (Nat.ne_of_beq_eq_false rfl) hb ⟨_, _, rfl, CellsAt.new u 91 _⟩ (by intro g hg; simp only [ownArr, blkOf, List.mem_singleton] at hg; subst hg; exact ⟨Nat.le_refl _, by simp⟩), fun _ => ⟨by simp [setD, d14], by simp [setD, d19], u.heap.size, by simp [setG], ?_⟩⟩
      simp only [setG, Nat.reduceEqDiff, if_false, g14, g19, agg1, agg3]
      exact CellsAt.new u 91 #[.int .i64 x.s0.count, .slice A0 x.s0.trusts.length c0, .int .i64 x.s0.mac, .slice C0 x.s0.cells.length d0', .int .i64 x.s1.count, .slice A1 x.s1.trusts.length c1, .int .i64 x.s1.mac, .slice C1 x.s1.cells.length d1']
    · obtain ⟨z, hz, hzs⟩ := hu.1.box
      refine steps_store hz rfl rfl (show _ = Value.agg (vX x A2 c2 A4 c4 A9 c9 ga 0 2) from rfl) (by kernel_rfl) hzs (by simp [Value.oneCell']) (fun w' hc hg => ⟨rfl, ⟨hu.1.stored hok hstab (by intro y hy; simp only [List.mem_cons, List.not_mem_nil, or_false] at hy; rcases hy with rfl | rfl | rfl | rfl | rfl | rfl | rfl <;> exact ⟨Nat.ne_of_beq_eq_false rfl, Nat.ne_of_beq_eq_false rfl⟩) (by intro y hy; simp only [List.mem_cons, List.not_mem_nil, or_false] at hy; rcases hy with rfl | rfl | rfl | rfl; exact hd { on := 2, ground := Ground.phase } (by simp) rfl rfl; exact hd { on := 5, ground := Ground.phase } (by simp) rfl rfl; exact hd { on := 9, ground := Ground.phase } (by simp) rfl rfl; exact hd { on := 20, ground := Ground.phase } (by simp) rfl rfl) hg ?_ _, hu.2.step hD (Nat.ne_of_beq_eq_false rfl) (fun d g hgf => hg.block g ((hu.1.1.at_ (z := ownArr 20 91) (by simp) d).2 g hgf).2 (by intro e; injection e with e; have h1 := ((hu.1.1.at_ (z := ownArr 20 91) (by simp) d).2 g hgf).1; have h2 := hok.2.1; omega))⟩⟩)
      show CellsAt w' (w.heap.size + 1) 31 (#[.int .i64 x.key, agg1 (γ 2), γ 5, γ 9, γ 20, .int .i64 x.count])
      simp only [g2, g5, g9, g20]
      exact hc
  · intro D uf hD hu
    have ho2 : ∃ A c, γ 2 = .agg (pA x.key A x.counts.length c) ∧ IRow uf w.heap.size (.slice A x.counts.length c) x.counts := (hu.1.1.at_ (z := ownIn 2 w.heap.size 2 1 x.counts.length (x.counts.map (Value.int .i64)) (fun s => .agg #[.int .i64 x.key, s])) (by simp) (hD 2 (by simp) rfl)).1
    simp only [g2] at ho2
    have ho5 : TrRow uf w.heap.size (γ 5) x.trusts := (hu.1.1.at_ (z := ownRow 5 w.heap.size 94 8 x.trusts.length (flatS truV x.trusts)) (by simp) (hD 5 (by simp) rfl)).1
    simp only [g5] at ho5
    have ho9 : ClRow uf w.heap.size (γ 9) x.cells := (hu.1.1.at_ (z := ownRow 9 w.heap.size 118 2 x.cells.length (flatS ceV x.cells)) (by simp) (hD 9 (by simp) rfl)).1
    simp only [g9] at ho9
    have ho14 : ∃ A c C d, γ 14 = .agg #[.int .i64 x.s0.count, .slice A x.s0.trusts.length c, .int .i64 x.s0.mac, .slice C x.s0.cells.length d] ∧ TrRow uf w.heap.size (.slice A x.s0.trusts.length c) x.s0.trusts ∧ ClRow uf w.heap.size (.slice C x.s0.cells.length d) x.s0.cells ∧ ∀ g ∈ blkOf (.slice A x.s0.trusts.length c), g ∉ blkOf (.slice C x.s0.cells.length d) := (hu.1.1.at_ (z := ownTwo 14 w.heap.size 94 8 x.s0.trusts.length (flatS truV x.s0.trusts) 118 2 x.s0.cells.length (flatS ceV x.s0.cells) (fun s t => .agg #[.int .i64 x.s0.count, s, .int .i64 x.s0.mac, t])) (by simp) (hD 14 (by simp) rfl)).1
    simp only [g14] at ho14
    have ho19 : ∃ A c C d, γ 19 = .agg #[.int .i64 x.s1.count, .slice A x.s1.trusts.length c, .int .i64 x.s1.mac, .slice C x.s1.cells.length d] ∧ TrRow uf w.heap.size (.slice A x.s1.trusts.length c) x.s1.trusts ∧ ClRow uf w.heap.size (.slice C x.s1.cells.length d) x.s1.cells ∧ ∀ g ∈ blkOf (.slice A x.s1.trusts.length c), g ∉ blkOf (.slice C x.s1.cells.length d) := (hu.1.1.at_ (z := ownTwo 19 w.heap.size 94 8 x.s1.trusts.length (flatS truV x.s1.trusts) 118 2 x.s1.cells.length (flatS ceV x.s1.cells) (fun s t => .agg #[.int .i64 x.s1.count, s, .int .i64 x.s1.mac, t])) (by simp) (hD 19 (by simp) rfl)).1
    simp only [g19] at ho19
    have ho20 : ∃ g cs, γ 20 = .slice (some ⟨g, 0, none⟩) 2 2 ∧ CellsAt uf g 91 cs := (hu.1.1.at_ (z := ownArr 20 91) (by simp) (hD 20 (by simp) rfl)).1
    simp only [g20] at ho20
    obtain ⟨hres0, hf⟩ := hu.1.done (hD 24 (by simp) rfl)
    have hres : CellsAt uf (w.heap.size + 1) 31 (#[.int .i64 x.key, agg1 (γ 2), γ 5, γ 9, γ 20, .int .i64 x.count]) := hres0
    simp only [g2, g5, g9, g20] at hres
    clear hres0
    have j2_5 := hu.1.1.2.2.2.2.2.2.1 (ownIn 2 w.heap.size 2 1 x.counts.length (x.counts.map (Value.int .i64)) (fun s => .agg #[.int .i64 x.key, s])) (by simp) (ownRow 5 w.heap.size 94 8 x.trusts.length (flatS truV x.trusts)) (by simp) (Nat.ne_of_beq_eq_false rfl) rfl (hD 2 (by simp) rfl) (hD 5 (by simp) rfl)
    change ∀ g ∈ blkOf (agg1 (γ 2)), g ∉ blkOf (γ 5) at j2_5
    simp only [g2, g5, agg1] at j2_5
    have j2_9 := hu.1.1.2.2.2.2.2.2.1 (ownIn 2 w.heap.size 2 1 x.counts.length (x.counts.map (Value.int .i64)) (fun s => .agg #[.int .i64 x.key, s])) (by simp) (ownRow 9 w.heap.size 118 2 x.cells.length (flatS ceV x.cells)) (by simp) (Nat.ne_of_beq_eq_false rfl) rfl (hD 2 (by simp) rfl) (hD 9 (by simp) rfl)
    change ∀ g ∈ blkOf (agg1 (γ 2)), g ∉ blkOf (γ 9) at j2_9
    simp only [g2, g9, agg1] at j2_9
    have j2_20 := hu.1.1.2.2.2.2.2.2.1 (ownIn 2 w.heap.size 2 1 x.counts.length (x.counts.map (Value.int .i64)) (fun s => .agg #[.int .i64 x.key, s])) (by simp) (ownArr 20 91) (by simp) (Nat.ne_of_beq_eq_false rfl) rfl (hD 2 (by simp) rfl) (hD 20 (by simp) rfl)
    change ∀ g ∈ blkOf (agg1 (γ 2)), g ∉ blkOf (γ 20) at j2_20
    simp only [g2, g20, agg1] at j2_20
    have j2_14 := hu.1.1.2.2.2.2.2.2.1 (ownIn 2 w.heap.size 2 1 x.counts.length (x.counts.map (Value.int .i64)) (fun s => .agg #[.int .i64 x.key, s])) (by simp) (ownTwo 14 w.heap.size 94 8 x.s0.trusts.length (flatS truV x.s0.trusts) 118 2 x.s0.cells.length (flatS ceV x.s0.cells) (fun s t => .agg #[.int .i64 x.s0.count, s, .int .i64 x.s0.mac, t])) (by simp) (Nat.ne_of_beq_eq_false rfl) rfl (hD 2 (by simp) rfl) (hD 14 (by simp) rfl)
    change ∀ g ∈ blkOf (agg1 (γ 2)), g ∉ blkOf (agg1 (γ 14)) ++ blkOf (agg3 (γ 14)) at j2_14
    simp only [g2, g14, agg1, agg3] at j2_14
    have j2_19 := hu.1.1.2.2.2.2.2.2.1 (ownIn 2 w.heap.size 2 1 x.counts.length (x.counts.map (Value.int .i64)) (fun s => .agg #[.int .i64 x.key, s])) (by simp) (ownTwo 19 w.heap.size 94 8 x.s1.trusts.length (flatS truV x.s1.trusts) 118 2 x.s1.cells.length (flatS ceV x.s1.cells) (fun s t => .agg #[.int .i64 x.s1.count, s, .int .i64 x.s1.mac, t])) (by simp) (Nat.ne_of_beq_eq_false rfl) rfl (hD 2 (by simp) rfl) (hD 19 (by simp) rfl)
    change ∀ g ∈ blkOf (agg1 (γ 2)), g ∉ blkOf (agg1 (γ 19)) ++ blkOf (agg3 (γ 19)) at j2_19
    simp only [g2, g19, agg1, agg3] at j2_19
    have j5_9 := hu.1.1.2.2.2.2.2.2.1 (ownRow 5 w.heap.size 94 8 x.trusts.length (flatS truV x.trusts)) (by simp) (ownRow 9 w.heap.size 118 2 x.cells.length (flatS ceV x.cells)) (by simp) (Nat.ne_of_beq_eq_false rfl) rfl (hD 5 (by simp) rfl) (hD 9 (by simp) rfl)
    change ∀ g ∈ blkOf (γ 5), g ∉ blkOf (γ 9) at j5_9
    simp only [g5, g9] at j5_9
    have j5_20 := hu.1.1.2.2.2.2.2.2.1 (ownRow 5 w.heap.size 94 8 x.trusts.length (flatS truV x.trusts)) (by simp) (ownArr 20 91) (by simp) (Nat.ne_of_beq_eq_false rfl) rfl (hD 5 (by simp) rfl) (hD 20 (by simp) rfl)
    change ∀ g ∈ blkOf (γ 5), g ∉ blkOf (γ 20) at j5_20
    simp only [g5, g20] at j5_20
    have j5_14 := hu.1.1.2.2.2.2.2.2.1 (ownRow 5 w.heap.size 94 8 x.trusts.length (flatS truV x.trusts)) (by simp) (ownTwo 14 w.heap.size 94 8 x.s0.trusts.length (flatS truV x.s0.trusts) 118 2 x.s0.cells.length (flatS ceV x.s0.cells) (fun s t => .agg #[.int .i64 x.s0.count, s, .int .i64 x.s0.mac, t])) (by simp) (Nat.ne_of_beq_eq_false rfl) rfl (hD 5 (by simp) rfl) (hD 14 (by simp) rfl)
    change ∀ g ∈ blkOf (γ 5), g ∉ blkOf (agg1 (γ 14)) ++ blkOf (agg3 (γ 14)) at j5_14
    simp only [g5, g14, agg1, agg3] at j5_14
    have j5_19 := hu.1.1.2.2.2.2.2.2.1 (ownRow 5 w.heap.size 94 8 x.trusts.length (flatS truV x.trusts)) (by simp) (ownTwo 19 w.heap.size 94 8 x.s1.trusts.length (flatS truV x.s1.trusts) 118 2 x.s1.cells.length (flatS ceV x.s1.cells) (fun s t => .agg #[.int .i64 x.s1.count, s, .int .i64 x.s1.mac, t])) (by simp) (Nat.ne_of_beq_eq_false rfl) rfl (hD 5 (by simp) rfl) (hD 19 (by simp) rfl)
    change ∀ g ∈ blkOf (γ 5), g ∉ blkOf (agg1 (γ 19)) ++ blkOf (agg3 (γ 19)) at j5_19
    simp only [g5, g19, agg1, agg3] at j5_19
    have j9_20 := hu.1.1.2.2.2.2.2.2.1 (ownRow 9 w.heap.size 118 2 x.cells.length (flatS ceV x.cells)) (by simp) (ownArr 20 91) (by simp) (Nat.ne_of_beq_eq_false rfl) rfl (hD 9 (by simp) rfl) (hD 20 (by simp) rfl)
    change ∀ g ∈ blkOf (γ 9), g ∉ blkOf (γ 20) at j9_20
    simp only [g9, g20] at j9_20
    have j9_14 := hu.1.1.2.2.2.2.2.2.1 (ownRow 9 w.heap.size 118 2 x.cells.length (flatS ceV x.cells)) (by simp) (ownTwo 14 w.heap.size 94 8 x.s0.trusts.length (flatS truV x.s0.trusts) 118 2 x.s0.cells.length (flatS ceV x.s0.cells) (fun s t => .agg #[.int .i64 x.s0.count, s, .int .i64 x.s0.mac, t])) (by simp) (Nat.ne_of_beq_eq_false rfl) rfl (hD 9 (by simp) rfl) (hD 14 (by simp) rfl)
    change ∀ g ∈ blkOf (γ 9), g ∉ blkOf (agg1 (γ 14)) ++ blkOf (agg3 (γ 14)) at j9_14
    simp only [g9, g14, agg1, agg3] at j9_14
    have j9_19 := hu.1.1.2.2.2.2.2.2.1 (ownRow 9 w.heap.size 118 2 x.cells.length (flatS ceV x.cells)) (by simp) (ownTwo 19 w.heap.size 94 8 x.s1.trusts.length (flatS truV x.s1.trusts) 118 2 x.s1.cells.length (flatS ceV x.s1.cells) (fun s t => .agg #[.int .i64 x.s1.count, s, .int .i64 x.s1.mac, t])) (by simp) (Nat.ne_of_beq_eq_false rfl) rfl (hD 9 (by simp) rfl) (hD 19 (by simp) rfl)
    change ∀ g ∈ blkOf (γ 9), g ∉ blkOf (agg1 (γ 19)) ++ blkOf (agg3 (γ 19)) at j9_19
    simp only [g9, g19, agg1, agg3] at j9_19
    have j20_14 := hu.1.1.2.2.2.2.2.2.1 (ownArr 20 91) (by simp) (ownTwo 14 w.heap.size 94 8 x.s0.trusts.length (flatS truV x.s0.trusts) 118 2 x.s0.cells.length (flatS ceV x.s0.cells) (fun s t => .agg #[.int .i64 x.s0.count, s, .int .i64 x.s0.mac, t])) (by simp) (Nat.ne_of_beq_eq_false rfl) rfl (hD 20 (by simp) rfl) (hD 14 (by simp) rfl)
    change ∀ g ∈ blkOf (γ 20), g ∉ blkOf (agg1 (γ 14)) ++ blkOf (agg3 (γ 14)) at j20_14
    simp only [g20, g14, agg1, agg3] at j20_14
    have j20_19 := hu.1.1.2.2.2.2.2.2.1 (ownArr 20 91) (by simp) (ownTwo 19 w.heap.size 94 8 x.s1.trusts.length (flatS truV x.s1.trusts) 118 2 x.s1.cells.length (flatS ceV x.s1.cells) (fun s t => .agg #[.int .i64 x.s1.count, s, .int .i64 x.s1.mac, t])) (by simp) (Nat.ne_of_beq_eq_false rfl) rfl (hD 20 (by simp) rfl) (hD 19 (by simp) rfl)
    change ∀ g ∈ blkOf (γ 20), g ∉ blkOf (agg1 (γ 19)) ++ blkOf (agg3 (γ 19)) at j20_19
    simp only [g20, g19, agg1, agg3] at j20_19
    have j14_19 := hu.1.1.2.2.2.2.2.2.1 (ownTwo 14 w.heap.size 94 8 x.s0.trusts.length (flatS truV x.s0.trusts) 118 2 x.s0.cells.length (flatS ceV x.s0.cells) (fun s t => .agg #[.int .i64 x.s0.count, s, .int .i64 x.s0.mac, t])) (by simp) (ownTwo 19 w.heap.size 94 8 x.s1.trusts.length (flatS truV x.s1.trusts) 118 2 x.s1.cells.length (flatS ceV x.s1.cells) (fun s t => .agg #[.int .i64 x.s1.count, s, .int .i64 x.s1.mac, t])) (by simp) (Nat.ne_of_beq_eq_false rfl) rfl (hD 14 (by simp) rfl) (hD 19 (by simp) rfl)
    change ∀ g ∈ blkOf (agg1 (γ 14)) ++ blkOf (agg3 (γ 14)), g ∉ blkOf (agg1 (γ 19)) ++ blkOf (agg3 (γ 19)) at j14_19
    simp only [g14, g19, agg1, agg3] at j14_19
    obtain ⟨A8, c8, e8, r2⟩ := ho2
    simp only [Value.agg.injEq, Array.mk.injEq, List.cons.injEq, Value.slice.injEq, true_and, and_true] at e8
    obtain ⟨rfl, rfl⟩ := e8
    obtain ⟨A8, c8, C8, d8, e8, r14, q14, t14⟩ := ho14
    simp only [Value.agg.injEq, Array.mk.injEq, List.cons.injEq, Value.slice.injEq, true_and, and_true] at e8
    obtain ⟨⟨rfl, rfl⟩, rfl, rfl⟩ := e8
    obtain ⟨A8, c8, C8, d8, e8, r19, q19, t19⟩ := ho19
    simp only [Value.agg.injEq, Array.mk.injEq, List.cons.injEq, Value.slice.injEq, true_and, and_true] at e8
    obtain ⟨⟨rfl, rfl⟩, rfl, rfl⟩ := e8
    obtain ⟨-, -, g8, e8, hcs⟩ := hu.2 (hD 20 (by simp) rfl)
    rw [g20] at e8
    obtain rfl : ga = g8 := by simpa using e8
    simp only [g14, g19, agg1, agg3] at hcs
    have hga : w.heap.size ≤ ga := Nat.le_trans hu.1.1.2.1 ((hu.1.1.at_ (z := ownArr 20 91) (by simp) (hD 20 (by simp) rfl)).2 ga (by show ga ∈ blkOf (γ 20); rw [g20]; simp [blkOf])).1
    have d0 := hres.cell 0
    have d1 := hres.cell 1
    have d2 := hres.cell 2
    have d3 := hres.cell 3
    have d4 := hres.cell 4
    have d5 := hres.cell 5
    go_wp2_with fail
    exact bodyPost_ret (v := .agg (vX x A2 c2 A4 c4 A9 c9 ga 0 2)) (by simp [results, Tryz.results99, go_sem, d0, d1, d2, d3, d4, d5, agg1]) rfl ⟨_, rfl, ⟨A2, c2, A4, c4, A9, c9, ga, A0, c0, C0, d0', A1, c1, C1, d1', rfl, r2, ho5, ho9, hga, hcs, r14, q14, r19, q19, (List.Pairwise.cons (by intro q hq; simp only [List.mem_cons, List.not_mem_nil, or_false] at hq; rcases hq with rfl | rfl | rfl | rfl | rfl | rfl | rfl; exact fun y hy h => j2_5 y hy h; exact fun y hy h => j2_9 y hy h; exact fun y hy h => j2_20 y hy h; exact fun y hy h => j2_14 y hy (List.mem_append_left _ h); exact fun y hy h => j2_14 y hy (List.mem_append_right _ h); exact fun y hy h => j2_19 y hy (List.mem_append_left _ h); exact fun y hy h => j2_19 y hy (List.mem_append_right _ h)) (List.Pairwise.cons (by intro q hq; simp only [List.mem_cons, List.not_mem_nil, or_false] at hq; rcases hq with rfl | rfl | rfl | rfl | rfl | rfl; exact fun y hy h => j5_9 y hy h; exact fun y hy h => j5_20 y hy h; exact fun y hy h => j5_14 y hy (List.mem_append_left _ h); exact fun y hy h => j5_14 y hy (List.mem_append_right _ h); exact fun y hy h => j5_19 y hy (List.mem_append_left _ h); exact fun y hy h => j5_19 y hy (List.mem_append_right _ h)) (List.Pairwise.cons (by intro q hq; simp only [List.mem_cons, List.not_mem_nil, or_false] at hq; rcases hq with rfl | rfl | rfl | rfl | rfl; exact fun y hy h => j9_20 y hy h; exact fun y hy h => j9_14 y hy (List.mem_append_left _ h); exact fun y hy h => j9_14 y hy (List.mem_append_right _ h); exact fun y hy h => j9_19 y hy (List.mem_append_left _ h); exact fun y hy h => j9_19 y hy (List.mem_append_right _ h)) (List.Pairwise.cons (by intro q hq; simp only [List.mem_cons, List.not_mem_nil, or_false] at hq; rcases hq with rfl | rfl | rfl | rfl; exact fun y hy h => j20_14 y hy (List.mem_append_left _ h); exact fun y hy h => j20_14 y hy (List.mem_append_right _ h); exact fun y hy h => j20_19 y hy (List.mem_append_left _ h); exact fun y hy h => j20_19 y hy (List.mem_append_right _ h)) (List.Pairwise.cons (by intro q hq; simp only [List.mem_cons, List.not_mem_nil, or_false] at hq; rcases hq with rfl | rfl | rfl; exact t14; exact fun y hy h => j14_19 y (List.mem_append_left _ hy) (List.mem_append_left _ h); exact fun y hy h => j14_19 y (List.mem_append_left _ hy) (List.mem_append_right _ h)) (List.Pairwise.cons (by intro q hq; simp only [List.mem_cons, List.not_mem_nil, or_false] at hq; rcases hq with rfl | rfl; exact fun y hy h => j14_19 y (List.mem_append_right _ hy) (List.mem_append_left _ h); exact fun y hy h => j14_19 y (List.mem_append_right _ hy) (List.mem_append_right _ h)) (List.Pairwise.cons (by intro q hq; simp only [List.mem_cons, List.not_mem_nil, or_false] at hq; subst hq; exact t19) (List.Pairwise.cons (by intro q hq; cases hq) List.Pairwise.nil))))))))⟩, hf.1⟩
end Go.Proofs.YteoijmejhdocdaaGreatDoor.Mx

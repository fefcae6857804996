import Derived.Test.YtjbnknccnhdapaaGreatG21
import Derived.Test.YtjbnknccnhdapaaGreatG19
import Derived.Test.YtjbnknccnhdapaaGreatG04
namespace Go.Proofs.YtjbnknccnhdapaaGreat.Mx
open Go.ChangeShapes Go.WideShapes Go.ChangeAt Go.RowKit
set_option linter.unusedVariables false
theorem vol_put {w1 : World} {r : Nat} {t : TypeId} {x0 x1 x2 x3 x4 x5 y0 y1 y2 y3 y4 y5 : Value} (hk : CellsAt w1 r t #[y0, y1, y2, y3, y4, y5]) :
    CellsAt ((((((w1.setCell ⟨r, 0, none⟩ x0).setCell ⟨r, 1, none⟩ x1).setCell ⟨r, 2, none⟩ x2).setCell ⟨r, 3, none⟩ x3).setCell ⟨r, 4, none⟩ x4).setCell ⟨r, 5, none⟩ x5) r t #[x0, x1, x2, x3, x4, x5] ∧
    w1.grownBy ((((((w1.setCell ⟨r, 0, none⟩ x0).setCell ⟨r, 1, none⟩ x1).setCell ⟨r, 2, none⟩ x2).setCell ⟨r, 3, none⟩ x3).setCell ⟨r, 4, none⟩ x4).setCell ⟨r, 5, none⟩ x5) (some r) := by
 have h := (((((hk.set_ 0 x0).set_ 1 x1).set_ 2 x2).set_ 3 x3).set_ 4 x4).set_ 5 x5
 simp only [List.setIfInBounds_toArray, List.set_cons_zero, List.set_cons_succ] at h
 exact ⟨h, gb_set (gb_set (gb_set (gb_set (gb_set (gb_set (gb_refl w1 (some r)) 0 x0) 1 x1) 2 x2) 3 x3) 4 x4) 5 x5⟩
def CloseRel (w : World) (x : VolN) (r : Int) (s : Int) (y : VolN) (wr : World) : Prop :=
 y.Short ∧ y.Fit ∧ y.CurOk ∧ y.counts = x.counts ∧ ∃ A1 c1 B1 k1 C1 e1 b1 o1 s1, Kept w [(w.heap.size + 1, 45, zV), (w.heap.size, 45, (vX y A1 c1 B1 k1 C1 e1 b1 o1 s1))] wr ∧ VolR wr wr.heap.size y (.agg (vX y A1 c1 B1 k1 C1 e1 b1 o1 s1)) ∧
  ((s = 0 ∧ ∃ n : Nat, closeN r n y = closeVol x r ∧ x.counts.getD r.toNat 0 - 1 - (y.trusts.getD r.toNat default).cursor ≤ n) ∨ (s ≠ 0 ∧ closeVol x r = (y, s) ∧ VolO wr (w.heap.size + 1 + 1) y (.agg (vX y A1 c1 B1 k1 C1 e1 b1 o1 s1))))
def closeLeft (w : World) (r : Int) (cnt : Int) (i : Value) (wr : World) : Nat :=
 if intOf i = 0 then 1 + (match wr.cell? ⟨w.heap.size, 2, none⟩ with
  | some (.slice (some a) _ _) => (match wr.cell? ⟨a.block, a.off + r.toNat * 8 + 2, none⟩ with | some (.int .i64 c) => (cnt - c).toNat | _ => 0)
  | _ => 0) else 0
theorem closeLeft_eq {w wr : World} {x y : VolN} {r : Int} {s : Int} (h : CloseRel w x r s y wr) (hr : r.toNat < x.counts.length) :
    closeLeft w r (x.counts.getD r.toNat 0) (.int .i64 s) wr = if s = 0 then 1 + (x.counts.getD r.toNat 0 - (y.trusts.getD r.toNat default).cursor).toNat else 0 := by
 obtain ⟨_, hf, _, hc, A1, c1, B1, k1, C1, e1, b1, o1, s1, hk, ⟨A2, c2, B2, d2, C2, e2, b2, o2, s2, hv, _, hB, _⟩, _⟩ := h
 have hB2 : B1 = B2 := by injection hv with hv; injection hv with hv; injection hv with _ hv; injection hv with _ hv; injection hv with hv1 hv; injection hv1
 subst hB2
 obtain ⟨bT, oT, rfl, hb, hT⟩ := Trs.at_ hB (k := r.toNat) (by rw [hf.1, hc]; exact hr)
 have h2 := (hk.at_ (p := w.heap.size) (t := 45) (cs := (vX y A1 c1 (some ⟨bT, oT, none⟩) k1 C1 e1 b1 o1 s1)) (by simp)).cell 2
 unfold closeLeft
 rw [h2]
 simp only [List.getElem?_toArray, List.getElem?_cons_succ, List.getElem?_cons_zero, hT.2.2.1, intOf]
set_option maxRecDepth 20000 in
set_option maxHeartbeats 500000 in
theorem l12Close_calls (x : VolN) (A : Option Addr) (cap : Nat) (B : Option Addr) (tc : Nat) (C : Option Addr) (cc : Nat) (b off sc : Nat) (w : World) (hx : x.Short) (hcap : x.counts.length ≤ cap) (hA : Ints w .i64 w.heap.size A x.counts) (hB : Trs w w.heap.size B x.trusts) (hC : Cls w w.heap.size C x.cells) (hbb : b < w.heap.size) (h0 : SlotAt w w.heap.size b off x.s0) (h1 : SlotAt w w.heap.size b (off + 4) x.s1) (hfit : x.Fit) (hcur : x.CurOk) (r : Int) (hr0 : 0 ≤ r) (hr : r < x.counts.length) :
    Calls Tryz.prog 59 #[.agg (vX x A cap B tc C cc b off sc), .int .i64 r] w (VolAns1 w (closeVol x r)) := by
 have K0 := Lib.hid (show Kept w [(w.heap.size + 1, 45, zV), (w.heap.size, 45, (vX x A cap B tc C cc b off sc))] _ from (((Kept.refl w).put1 _ _ (vX x A cap B tc C cc b off sc) rfl).put1 _ _ zV (by simp)))
 have R0 := Lib.hid (show CloseRel w x r 0 x _ from ⟨hx, hfit, hcur, rfl, A, cap, B, tc, C, cc, b, off, sc, K0.out, VolR.more (VolR.below ⟨A, cap, B, tc, C, cc, b, off, sc, rfl, hA, hB, hC, hbb, h0, h1, hcap⟩ K0.out.1 (Nat.le_refl _)) K0.out.1.size, .inl ⟨rfl, _, rfl, by omega⟩⟩)
 have hrn : r.toNat < x.counts.length := by omega
 clear hx hcap hA hB hC hbb h0 h1 hfit hcur
 go_enter Tryz.func59, Tryz.ntmps59
 go_wp2_with fail
 go_loopw [6] (fun i wr => ∃ (s : Int) (y : VolN), i = .int .i64 s ∧ CloseRel w x r s y wr) (fun i wr => closeLeft w r (x.counts.getD r.toNat 0) i wr)
 case atStart => exact ⟨0, x, rfl, R0.out⟩
 case round =>
  obtain ⟨s, y, rfl, hrel⟩ := hrel
  have HM := Lib.hid (closeLeft_eq hrel hrn)
  obtain ⟨yx, yf, yc, hcn, A1, c1, B1, k1, C1, e1, b1, o1, s1, hk, hv, hs⟩ := hrel
  have HCN := Lib.hid hcn
  clear hcn
  rcases hs with ⟨rfl, n, hn, hle⟩ | ⟨hs, hcl, ho⟩
  ·obtain ⟨A2, c2, B2, d2, C2, e2, b2, o2, s2, hq, g1, g2, g3, g4, g5, g6, g7⟩ := hv
   have hST := Lib.hid (l12Step_calls y A2 c2 B2 d2 C2 e2 b2 o2 s2 _ yx g7 g1 g2 g3 g4 g5 g6 yf yc r)
   rw [← hq] at hST
   have HN := Lib.hid (stepVol_zero (r := r) yf)
   have P1 := Lib.hid (stepVol_short yx r)
   have P2 := Lib.hid (stepVol_fit yf r)
   have P3 := Lib.hid (stepVol_cur yc r)
   have P4 := Lib.hid (stepVol_len y r).2.1
   have HON := Lib.hid (fun n => closeN_on (r := r) (n := n) (y := y))
   have HEN := Lib.hid (fun n => closeN_end (r := r) (n := n) (y := y))
   clear yx yf yc g1 g2 g3 g4 g5 g6 g7 hq
   obtain ⟨⟨z, q⟩, hz⟩ : ∃ Z, Z = stepVol y r := ⟨_, rfl⟩
   rw [← hz] at hST HN P1 P2 P3 P4 HON HEN
   clear hz
   simp only [] at HN P1 P2 P3 P4 HON HEN
   have HL := Lib.hid (And.intro hn hle)
   clear hn hle
   obtain ⟨kc0, kf0, kc1, kf1, -⟩ := hk.rd
   go_wp2_with fail
   refine hST.out.mono ?_; rintro e u1 ⟨cs, rfl, hv1, hb1⟩
   obtain ⟨A', c', B', d', C', e', b', o', s', e1q, -⟩ := hv1.reads
   injection e1q with e1q
   subst e1q
   have hk1 := hk.below hb1
   have hl1 : w.heap.size + 1 < _ := hk.lt (x := (w.heap.size + 1, 45, zV)) (by simp)
   have lo0 : w.heap.size + 1 < u1.heap.size := hk1.lt (x := (w.heap.size + 1, 45, zV)) (by simp)
   have hk2 := hk1.put1 u1.heap.size 45 (vX z A' c' B' d' C' e' b' o' s') rfl
   have hv2 := (hv1.mono (show w.heap.size + 1 + 1 ≤ _ by omega)).below ((Below.refl _ _).alloc (Nat.le_refl _) (.cells (vX z A' c' B' d' C' e' b' o' s') 45))
   clear kc0 kf0 kc1 kf1 hb1 hv1 hk hk1 hST K0 R0
   go_upto_region 4 with fail
   obtain ⟨kc0, kf0, kc1, kf1, kc2, kf2, -⟩ := hk2.rd
   have HV := Lib.hid hv2
   clear hv2
   go_wp2_with fail
   have hvp := vol_put (x0 := .int .i64 z.key) (x1 := .slice A' z.counts.length c') (x2 := .slice B' z.trusts.length d') (x3 := .slice C' z.cells.length e') (x4 := .slice (some ⟨b', o', none⟩) 2 s') (x5 := .int .i64 z.count) (hk2.at_ (p := w.heap.size) (t := 45) (cs := (vX y A1 c1 B1 k1 C1 e1 b1 o1 s1)) (by simp))
   generalize World.setCell _ _ _ = w5 at hvp ⊢
   have hk5 := hk2.put (k := 2) rfl (by unfold Apart; simp <;> omega) hvp.2 hvp.1
   have hv5 := HV.out.out hvp.2 (by omega)
   have hk6 : Kept w [(w.heap.size + 1, 45, zV), (w.heap.size, 45, (vX z A' c' B' d' C' e' b' o' s'))] w5 := Kept.sub (show Kept w [(u1.heap.size, 45, (vX z A' c' B' d' C' e' b' o' s')), (w.heap.size + 1, 45, zV), (w.heap.size, 45, (vX z A' c' B' d' C' e' b' o' s'))] w5 from hk5) (by intro y hy; simp at hy ⊢; rcases hy with rfl | rfl <;> simp)
   have hrel : CloseRel w x r q z w5 := ⟨P1.out, P2.out, P3.out, P4.out.trans HCN.out, A', c', B', d', C', e', b', o', s', hk6, hv5.reads, by
    by_cases hq0 : q = 0
    ·subst hq0
     obtain ⟨m1, m2⟩ := HN.out rfl
     rw [HCN.out] at m1
     obtain ⟨n1, n2⟩ := HL.out
     obtain ⟨k, rfl⟩ : ∃ k, n = k + 1 := ⟨n - 1, by omega⟩
     exact .inl ⟨rfl, k, by rw [← HON.out k rfl]; exact n1, by rw [m2]; omega⟩
    ·exact .inr ⟨hq0, by rw [← HL.out.1]; exact HEN.out n hq0, hv5⟩⟩
   have HR := Lib.hid hrel
   clear hrel hk5 hk6 hv5 hvp kc0 kf0 kc1 kf1 kc2 kf2 hk2 HV
   go_wp2_with fail
   go_roundw
   case rel => exact ⟨q, z, rfl, HR.out⟩
   case measure =>
    rw [closeLeft_eq HR.out hrn, HM.out]
    rw [show (∀ (aa bb : Nat), (if True then aa else bb) = aa) from fun aa bb => if_pos trivial]
    by_cases hq0 : q = 0
    ·subst hq0; obtain ⟨m1, m2⟩ := HN.out rfl; rw [HCN.out] at m1; rw [if_pos rfl, m2]; omega
    ·rw [if_neg hq0]; omega
  ·have hsb : (s == (0 : Int)) = false := beq_eq_false_iff_ne.2 hs
   have HO := Lib.hid ho
   clear ho hs hv
   rw [hcl]
   obtain ⟨kc0, kf0, kc1, kf1, -⟩ := hk.rd
   go_wp2_with fail
   obtain ⟨w9, e9, ⟨d0, d1, d2, d3, d4, d5⟩, hb9, hg9⟩ := vol_end (w := w) (x0 := .int .i64 y.key) (x1 := .slice A1 y.counts.length c1) (x2 := .slice B1 y.trusts.length k1) (x3 := .slice C1 y.cells.length e1) (x4 := .slice (some ⟨b1, o1, none⟩) 2 s1) (x5 := .int .i64 y.count) (hk.at_ (p := w.heap.size + 1) (t := 45) (cs := zV) (by simp)) hk.1 (by omega)
   rw [e9]
   exact bodyPost_ret (v := .tuple #[.agg (vX y A1 c1 B1 k1 C1 e1 b1 o1 s1), .int .i64 s]) (by simp [results, Tryz.results59, go_sem, d0, d1, d2, d3, d4, d5]) rfl ⟨_, rfl, (HO.out.out hg9 (by omega)).mono (by omega), hb9⟩
noncomputable def writeVol (x : VolN) (a value : Int) : VolN × Int × Int :=
 open Classical in if isVal value then touchVol x a value else (x, 0, 1)
set_option maxRecDepth 20000 in
set_option maxHeartbeats 4000000 in
theorem l12Write_calls (x : VolN) (A : Option Addr) (cap : Nat) (B : Option Addr) (tc : Nat) (C : Option Addr) (cc : Nat) (b off sc : Nat) (w : World) (hx : x.Short) (hcap : x.counts.length ≤ cap) (hA : Ints w .i64 w.heap.size A x.counts) (hB : Trs w w.heap.size B x.trusts) (hC : Cls w w.heap.size C x.cells) (hbb : b < w.heap.size) (h0 : SlotAt w w.heap.size b off x.s0) (h1 : SlotAt w w.heap.size b (off + 4) x.s1) (hfit : x.Fit) (a value : Int) (ha : I64 a) :
    Calls Tryz.prog 57 #[.agg (vX x A cap B tc C cc b off sc), .int .i64 a, .int .i64 value] w (VolAns w (writeVol x a value)) := by
 have K0 := Lib.hid (show Kept w [(w.heap.size + 1, 45, zV), (w.heap.size, 45, (vX x A cap B tc C cc b off sc))] _ from (((Kept.refl w).put1 _ _ (vX x A cap B tc C cc b off sc) rfl).put1 _ _ zV (by simp)))
 have CO := Lib.hid (fun (u : World) (hb : Below w.heap.size w u) => l12Copy_calls x A cap B tc C cc b off sc u hx ((hA.below hb (Nat.le_refl _)).more hb.size) ((hB.below hb (Nat.le_refl _)).more hb.size) ((hC.below hb (Nat.le_refl _)).more hb.size) (Nat.lt_of_lt_of_le hbb hb.size) ((h0.below hb (Nat.le_refl _) hbb).more hb.size) ((h1.below hb (Nat.le_refl _) hbb).more hb.size))
 have TO := Lib.hid (fun (u : World) (hb : Below w.heap.size w u) => l12Touch_calls x A cap B tc C cc b off sc u hx hcap ((hA.below hb (Nat.le_refl _)).more hb.size) ((hB.below hb (Nat.le_refl _)).more hb.size) ((hC.below hb (Nat.le_refl _)).more hb.size) (Nat.lt_of_lt_of_le hbb hb.size) ((h0.below hb (Nat.le_refl _) hbb).more hb.size) ((h1.below hb (Nat.le_refl _) hbb).more hb.size) hfit a value ha)
 clear hA hB hC h0 h1 hfit hbb ha
 unfold writeVol
 by_cases hv : isVal value
 ·rw [if_pos hv]
  have V := Lib.hid (fun (u : World) => l2Value_yes value u hv)
  obtain ⟨⟨y, p, q⟩, hy⟩ : ∃ Y, Y = touchVol x a value := ⟨_, rfl⟩
  rw [← hy] at TO ⊢
  clear hy
  go_enter Tryz.func57, Tryz.ntmps57
  go_wp2_with fail
  refine (V.out _).mono ?_; rintro e w' ⟨rfl, rfl⟩
  obtain ⟨kc0, kf0, kc1, kf1, -⟩ := K0.out.rd
  go_wp2_with fail
  refine (TO.out _ K0.out.1).mono ?_; rintro e u1 ⟨cs, rfl, hv1, hb1⟩
  obtain ⟨A', c', B', d', C', e', b', o', s', e1, -⟩ := hv1.reads
  injection e1 with e1
  subst e1
  have hk1 := K0.out.below hb1
  have hv2 := hv1.mono (show w.heap.size + 1 + 1 ≤ _ by simp)
  have lo0 : w.heap.size + 1 < u1.heap.size := hk1.lt (x := (w.heap.size + 1, 45, zV)) (by simp)
  clear hb1 hv1 kc0 kf0 kc1 kf1 CO TO V
  obtain ⟨kc0, kf0, kc1, kf1, -⟩ := hk1.rd
  have HV := Lib.hid hv2
  clear hv2
  go_wp2_with fail
  obtain ⟨w9, e9, ⟨d0, d1, d2, d3, d4, d5⟩, hb9, hg9⟩ := vol_end (w := w) (x0 := .int .i64 y.key) (x1 := .slice A' y.counts.length c') (x2 := .slice B' y.trusts.length d') (x3 := .slice C' y.cells.length e') (x4 := .slice (some ⟨b', o', none⟩) 2 s') (x5 := .int .i64 y.count) (hk1.at_ (p := w.heap.size + 1) (t := 45) (cs := zV) (by simp)) hk1.1 (by omega)
  rw [e9]
  exact bodyPost_ret (v := .tuple #[.agg (vX y A' c' B' d' C' e' b' o' s'), .int .i64 p, .int .i64 q]) (by simp [results, Tryz.results57, go_sem, d0, d1, d2, d3, d4, d5]) rfl ⟨_, rfl, (HV.out.out hg9 (by omega)).mono (by omega), hb9⟩
 ·rw [if_neg hv]
  have V := Lib.hid (fun (u : World) => l2Value_no value u hv)
  skip
  go_enter Tryz.func57, Tryz.ntmps57
  go_wp2_with fail
  refine (V.out _).mono ?_; rintro e w' ⟨rfl, rfl⟩
  obtain ⟨kc0, kf0, kc1, kf1, -⟩ := K0.out.rd
  go_wp2_with fail
  refine (CO.out _ K0.out.1).mono ?_; rintro e u1 ⟨vv, rfl, hv1, hb1⟩
  obtain ⟨A', c', B', d', C', e', b', o', s', e1, -⟩ := hv1.reads
  subst e1
  have hk1 := K0.out.below hb1
  have hv2 := hv1.mono (show w.heap.size + 1 + 1 ≤ _ by simp)
  have lo0 : w.heap.size + 1 < u1.heap.size := hk1.lt (x := (w.heap.size + 1, 45, zV)) (by simp)
  clear hb1 hv1 kc0 kf0 kc1 kf1 CO TO V
  obtain ⟨kc0, kf0, kc1, kf1, -⟩ := hk1.rd
  have HV := Lib.hid hv2
  clear hv2
  go_wp2_with fail
  obtain ⟨w9, e9, ⟨d0, d1, d2, d3, d4, d5⟩, hb9, hg9⟩ := vol_end (w := w) (x0 := .int .i64 x.key) (x1 := .slice A' x.counts.length c') (x2 := .slice B' x.trusts.length d') (x3 := .slice C' x.cells.length e') (x4 := .slice (some ⟨b', o', none⟩) 2 s') (x5 := .int .i64 x.count) (hk1.at_ (p := w.heap.size + 1) (t := 45) (cs := zV) (by simp)) hk1.1 (by omega)
  rw [e9]
  exact bodyPost_ret (v := .tuple #[.agg (vX x A' c' B' d' C' e' b' o' s'), .int .i64 0, .int .i64 1]) (by simp [results, Tryz.results57, go_sem, d0, d1, d2, d3, d4, d5]) rfl ⟨_, rfl, (HV.out.out hg9 (by omega)).mono (by omega), hb9⟩
theorem fine_four {x y z u : Int} (hx : 0 ≤ x) (hy : 0 ≤ y) (hz : 0 ≤ z) (hu : 0 ≤ u) : Fine [x, y, z, u] := by
 intro i hi
 match i, hi with
 | 0, _ => exact hx
 | 1, _ => exact hy
 | 2, _ => exact hz
 | 3, _ => exact hu
theorem addOf_sum {a b : Int} (ha : isSumP a) (hb : isSumP b) : isSumP (addOf a b) := by
 unfold isSumP at *
 unfold addOf
 rw [if_pos ⟨ha, hb⟩]; omega
theorem tagOf_sum {key a t v : Int} (hk : isKey key) (h : isTri a t v) : isSumP (tagOf key a t v) := by
 refine ⟨?_, (tagOf_bd key a t v).2⟩
 rw [tagOf_yes h]
 unfold isTri isAt isTm isVal at h
 exact mixOf_nat hk.1 hk.2 (fine_four (by omega) (by omega) (by omega) (by omega))
theorem hiddenOf_val {key a t v : Int} (hk : isKey key) (h : isTri a t v) : isVal (hiddenOf key a t v) := by
 have hs := streamOf_nat hk.1 hk.2 h.1.1 h.2.1.1
 unfold hiddenOf
 rw [turnOf_yes hs h.2.2]
 unfold isVal; omega
theorem shownOf_val {key a t v : Int} (hk : isKey key) (ha : isAt a) (h : isCell t v) : isVal (shownOf key a t v) := by
 have hs := streamOf_nat hk.1 hk.2 ha.1 h.1.1
 unfold shownOf
 rw [turnOf_yes hs h.2]
 unfold isVal; omega
theorem tripleIn_tag {key a t v : Int} (hk : isKey key) (ha : isAt a) (h : isCell t v) : isSumP (tagOf key (tripleIn a t v).1 (tripleIn a t v).2.1 (tripleIn a t v).2.2) := by
 have ht : isTri a t v := ⟨ha, h.1, h.2⟩
 rw [tripleIn_yes ht]; exact tagOf_sum hk ht
theorem cellOf_cell {key a t v : Int} (hk : isKey key) (ha : isAt a) (ht : isTm t) (hv : isVal v) : isCell (cellOf key a t v).1 (cellOf key a t v).2 := by
 have h : isTri a t v := ⟨ha, ht, hv⟩
 rw [cellOf_yes hk h]; exact ⟨ht, hiddenOf_val hk h⟩
theorem planOk_at {key : Int} {l : List Int} {a : Int} (hp : planOk key l) (h : 0 ≤ regionOf key l a) : isAt a := by
 obtain ⟨i, e, hi, -, h0, h1, h2⟩ := regionOf_up h
 have hm := upTo_mono hp.2.2.1 (i := i + 1) (j := l.length) (by omega) (Nat.le_refl _)
 have := hp.2.2.2
 unfold isAt; omega
theorem touched_right {key : Int} {l : List Int} {t : Tru} {a ct cv value : Int} (hp : planOk key l) (hr : 0 ≤ regionOf key l a) (ht : trustOk key l (regionOf key l a) t) (hc : isCell ct cv)
    (hk : (touched key l t a ct cv value).2.2.2 ≠ 1) : trustOk key l (regionOf key l a) (touched key l t a ct cv value).1 ∧ isCell (touched key l t a ct cv value).2.1.1 (touched key l t a ct cv value).2.1.2 := by
 unfold touched at hk ⊢
 split
 ·rename_i hok
  split
  ·exact ⟨ht, hc⟩
  ·split
   ·exact ⟨ht, hc⟩
   ·split
    ·exact ⟨ht, hc⟩
    ·rename_i hf hcl hti
     have ha := planOk_at hp hr
     obtain ⟨p1, p2, p3, p4, p5, p6, p7, p8, p9, p10⟩ := ht
     have hv : isVal (if value = -1 then valueIn key a ct cv else value) := by
      split
      ·rw [valueIn_yes hp.1 ha hc]; exact shownOf_val hp.1 ha hc
      ·rcases hok.2.2.2 with h | h
       ·exact absurd h ‹_›
       ·exact h
     have htm : isTm (t.clock + 1) := by unfold isTm at p3 ⊢; omega
     have hcell := cellOf_cell hp.1 ha htm hv
     have hs1 := tripleIn_tag hp.1 ha hc
     have hs2 := tripleIn_tag hp.1 ha hcell
     refine ⟨?_, hcell⟩
     simp only []
     cases hb : behindB key l t.cursor a with
     | true =>
       have hcur : t.cursor ≠ 0 := by
        intro h0
        unfold behindB at hb
        simp only [Bool.and_eq_true, decide_eq_true_eq] at hb
        obtain ⟨i, e, hi, -, q0, q1, q2⟩ := regionOf_up hr
        rw [e, firstOf_yes hp hi, h0] at hb
        omega
       exact ⟨p1, p2, htm, p4, p5, fun h => absurd h hcur, p7, p8, addOf_sum p9 hs1, addOf_sum p10 hs2⟩
     | false => exact ⟨p1, p2, htm, p4, p5, p6, addOf_sum p7 hs1, addOf_sum p8 hs2, p9, p10⟩
 ·rename_i hn
  rw [if_neg hn] at hk
  exact absurd rfl hk
theorem scanned_right {key : Int} {l : List Int} {r : Nat} {t : Tru} {ct cv : Int} (ht : trustOk key l r t) (hc : isCell ct cv) :
    trustOk key l r (scanned key l r t ct cv).1 ∧ isCell (scanned key l r t ct cv).2.1.1 (scanned key l r t ct cv).2.1.2 := by
 have hp := ht.1
 have hrl : r < l.length := by have := ht.2.1; omega
 unfold scanned
 rw [if_pos ⟨ht, hc⟩]
 split
 ·exact ⟨ht, hc⟩
 ·split
  ·exact ⟨ht, hc⟩
  ·split
   ·exact ⟨ht, hc⟩
   ·rename_i hf hcl hti
    obtain ⟨p1, p2, p3, p4, p5, p6, p7, p8, p9, p10⟩ := ht
    rw [Int.toNat_natCast] at *
    have ha : isAt (firstOf key l r + t.cursor) := by
     rw [firstOf_yes hp hrl]
     have h1 := upTo_bd hp.2.2.1 (k := r) (by omega)
     have h2 := upTo_succ l hrl
     have h3 := upTo_mono hp.2.2.1 (i := r + 1) (j := l.length) (by omega) (Nat.le_refl _)
     have := hp.2.2.2
     unfold isAt; omega
    have htm : isTm (t.clock + 1) := by unfold isTm at p3 ⊢; omega
    have hv : isVal (valueIn key (firstOf key l r + t.cursor) ct cv) := by rw [valueIn_yes hp.1 ha hc]; exact shownOf_val hp.1 ha hc
    have hcell := cellOf_cell hp.1 ha htm hv
    have hs1 := addOf_sum p7 (tripleIn_tag hp.1 ha hc)
    have hs2 := addOf_sum p10 (tripleIn_tag hp.1 ha hcell)
    split
    ·refine ⟨⟨p1, p2, htm, p4, ?_, fun h => ?_, hs1, p8, p9, hs2⟩, hcell⟩
     ·simp only [scanMid]; rw [Int.toNat_natCast]; omega
     ·simp only [scanMid] at h; omega
    ·refine ⟨?_, hcell⟩
     have z0 : isSumP 0 := by unfold isSumP; omega
     have hlc := hp.2.2.1 r hrl
     unfold verdictOf
     split
     ·refine ⟨p1, p2, htm, ⟨?_, ?_⟩, ⟨by simp only []; omega, by simp only []; rw [Int.toNat_natCast]; omega⟩, fun _ => ⟨rfl, rfl⟩, p9, hs2, z0, z0⟩
      ·simp only [scanMid]; omega
      ·simp only [scanMid]; omega
     ·exact ⟨p1, p2, htm, p4, ⟨by simp only []; omega, by simp only []; rw [Int.toNat_natCast]; omega⟩, fun _ => ⟨rfl, rfl⟩, hs1, p8, z0, z0⟩
theorem trustOk.i64 {key : Int} {l : List Int} {r : Int} {t : Tru} (h : trustOk key l r t) : TruI t := by
 obtain ⟨hp, p2, p3, p4, p5, p6, p7, p8, p9, p10⟩ := h
 have hl : l.getD r.toNat 0 ≤ 8 := (hp.2.2.1 r.toNat (by omega)).2
 unfold isTm at p3
 unfold isSumP at p7 p8 p9 p10
 exact ⟨⟨by omega, by omega⟩, ⟨by omega, by omega⟩, ⟨by omega, by omega⟩, ⟨by omega, by omega⟩, ⟨by omega, by omega⟩, ⟨by omega, by omega⟩, ⟨by omega, by omega⟩⟩
theorem trustsOk.i64 {key : Int} {l : List Int} {L : List Tru} (h : trustsOk key l L) : TrusI L := fun i hi => (h.2.2 i hi).i64
def SlN.Inv (key : Int) (l : List Int) (s : SlN) : Prop := (s.cells = [] ∨ cellsOk key l s.cells) ∧ s.trusts.length ≤ 4 ∧ TrusI s.trusts ∧ I64 s.count ∧ I64 s.mac
def VolN.Inv (x : VolN) : Prop := planOk x.key x.counts ∧ trustsOk x.key x.counts x.trusts ∧ cellsOk x.key x.counts x.cells ∧ (0 ≤ x.count ∧ x.count ≤ 10000) ∧ x.s0.Inv x.key x.counts ∧ x.s1.Inv x.key x.counts
theorem cellsOk.len {key : Int} {l : List Int} {L : List Ce} (hp : planOk key l) (h : cellsOk key l L) : (L.length : Int) = upTo l l.length ∧ L.length ≤ 24 := by
 have e := h.2
 unfold sectorsOf at e
 rw [if_pos hp] at e
 have := hp.2.2.2
 exact ⟨e, by omega⟩
theorem SlN.Inv.fits {key : Int} {l : List Int} {s : SlN} (hp : planOk key l) (h : s.Inv key l) : s.Fits := by
 obtain ⟨h0, h1, h2, h3, h4⟩ := h
 refine ⟨by omega, ?_, h2, h3⟩
 rcases h0 with h0 | h0
 ·rw [h0]; simp
 ·have := (h0.len hp).2; omega
theorem VolN.Inv.short {x : VolN} (h : x.Inv) : x.Short := by
 obtain ⟨hp, ht, hc, hn, h0, h1⟩ := h
 have a := hp.2.1.2
 have b := ht.2.1
 have c := (hc.len hp).2
 have d := h0.fits hp
 have e := h1.fits hp
 exact ⟨by omega, by omega, by omega, d.1, d.2.1, e.1, e.2.1⟩
theorem VolN.Inv.fit {x : VolN} (h : x.Inv) : x.Fit := ⟨h.2.1.2.1, (h.2.2.1.len h.1).1⟩
theorem VolN.Inv.cur {x : VolN} (h : x.Inv) : x.CurOk := by
 intro i hi
 have ht := h.2.1.2.2 i (by rw [h.2.1.2.1]; exact hi)
 have := ht.2.2.2.2.1
 rw [Int.toNat_natCast] at this
 omega
theorem trustsOk_set {key : Int} {l : List Int} {L : List Tru} {r : Nat} {t : Tru} (h : trustsOk key l L) (ht : trustOk key l r t) : trustsOk key l (L.set r t) := by
 refine ⟨h.1, by rw [List.length_set]; exact h.2.1, fun i hi => ?_⟩
 rw [List.length_set] at hi
 rw [getD_set_]
 split
 ·rename_i e; rw [← e.1]; exact ht
 ·exact h.2.2 i hi
theorem cellsOk_set {key : Int} {l : List Int} {L : List Ce} {j : Nat} {c : Ce} (h : cellsOk key l L) (hc : isCell c.1 c.2) : cellsOk key l (L.set j c) := by
 refine ⟨fun i hi => ?_, by rw [List.length_set]; exact h.2⟩
 rw [List.length_set] at hi
 rw [getD_set_]
 split
 ·exact hc
 ·exact h.1 i hi
theorem VolN.Inv.put {x : VolN} (h : x.Inv) {r : Nat} {t : Tru} {j : Nat} {c : Ce} (ht : trustOk x.key x.counts r t) (hc : isCell c.1 c.2) : ({ x with trusts := x.trusts.set r t, cells := x.cells.set j c } : VolN).Inv :=
 ⟨h.1, trustsOk_set h.2.1 ht, cellsOk_set h.2.2.1 hc, h.2.2.2.1, h.2.2.2.2.1, h.2.2.2.2.2⟩
theorem touchVol_inv {x : VolN} (h : x.Inv) (a value : Int) : (touchVol x a value).1.Inv := by
 unfold touchVol
 split
 ·rename_i hr
  split
  ·exact h
  ·rename_i hk
   have hr' := hr
   obtain ⟨i, e, hi, hp, h0, h1, h2⟩ := regionOf_up hr
   have hm := upTo_mono h.1.2.2.1 (i := i + 1) (j := x.counts.length) (by omega) (Nat.le_refl _)
   have hat : a.toNat < x.cells.length := by have := (h.2.2.1.len h.1).1; omega
   have ht := h.2.1.2.2 i (by rw [h.2.1.2.1]; exact hi)
   have hc := h.2.2.1.1 a.toNat hat
   have hR := touched_right h.1 hr (t := x.trusts.getD (regionOf x.key x.counts a).toNat default) (by rw [e, Int.toNat_natCast]; exact ht) hc hk
   exact h.put (by rw [Int.toNat_of_nonneg hr]; exact hR.1) hR.2
 ·exact h
theorem writeVol_inv {x : VolN} (h : x.Inv) (a value : Int) : (writeVol x a value).1.Inv := by
 unfold writeVol
 split
 ·exact touchVol_inv h a value
 ·exact h
theorem stepVol_inv {x : VolN} (h : x.Inv) (r : Int) : (stepVol x r).1.Inv := by
 unfold stepVol
 split
 ·rename_i hf
  have hpr : planOk x.key x.counts ∧ 0 ≤ r ∧ r < x.counts.length := by
   refine Classical.byContradiction fun hn => ?_
   unfold firstOf at hf
   rw [if_neg hn] at hf
   omega
  obtain ⟨i, rfl⟩ : ∃ i : Nat, r = i := ⟨r.toNat, by omega⟩
  have hi : i < x.counts.length := by omega
  have ht := h.2.1.2.2 i (by rw [h.2.1.2.1]; exact hi)
  have hcu := h.cur i hi
  have h1 := upTo_bd h.1.2.2.1 (k := i) (by omega)
  have h2 := upTo_succ x.counts hi
  have h3 := upTo_mono h.1.2.2.1 (i := i + 1) (j := x.counts.length) (by omega) (Nat.le_refl _)
  have hat : (firstOf x.key x.counts (i : Int) + (x.trusts.getD (i : Int).toNat default).cursor).toNat < x.cells.length := by
   have := (h.2.2.1.len h.1).1
   rw [firstOf_yes h.1 hi, Int.toNat_natCast]; omega
  have hc := h.2.2.1.1 _ hat
  have hR := scanned_right (t := x.trusts.getD (i : Int).toNat default) (by rw [Int.toNat_natCast]; exact ht) hc
  exact h.put (by rw [Int.toNat_natCast] at *; exact hR.1) hR.2
 ·exact h
theorem closeN_inv (r : Int) (n : Nat) {x : VolN} (h : x.Inv) : (closeN r n x).1.Inv := by
 induction n generalizing x with
 | zero => exact stepVol_inv h r
 | succ n ih =>
   unfold closeN
   split
   ·exact ih (stepVol_inv h r)
   ·exact stepVol_inv h r
theorem closeVol_inv {x : VolN} (h : x.Inv) (r : Int) : (closeVol x r).1.Inv := closeN_inv r _ h
end Go.Proofs.YtjbnknccnhdapaaGreat.Mx

import Derived.Test.YtgaecedhkbneaaaGreatDoorG32
import Derived.Test.YtgaecedhkbneaaaGreatDoorG22
import Derived.Test.YtgaecedhkbneaaaGreatDoorG23
namespace Go.Proofs.YtgaecedhkbneaaaGreatDoor.Mx
open Go.ChangeShapes Go.WideShapes Go.ChangeAt Go.RowKit
set_option linter.unusedVariables false
theorem TurnB.gb {b g : Nat} {u v : World} (h : u.grownBy v (some g)) (hb : b ≤ u.heap.size) : TurnB b (some g) u v :=
  ⟨h.os, h.tape, h.output, h.size, fun k hk hr => h.block k (Nat.lt_of_lt_of_le hk hb) (fun e => hr e.symm)⟩
theorem TurnB.grown {g : Nat} {u v : World} (h : TurnB u.heap.size (some g) u v) : u.grownBy v (some g) := ⟨h.1, h.2.1, h.2.2.1, h.2.2.2.1, fun k hk hr => h.2.2.2.2 k hk (fun e => hr e.symm)⟩
theorem VolO.lits {u : World} {b : Nat} {x : VolN} {cs : Array Value} (h : VolO u b x (.agg cs)) : ∃ A c B d C e g, cs = #[.int .i64 x.key, .slice A x.counts.length c, .slice B x.trusts.length d, .slice C x.cells.length e, .slice (some ⟨g, 0, none⟩) 2 2, .int .i64 x.count] := by
  obtain ⟨A, c, B, d, C, e, g, q0, q1, q2, q3, q4, q5, q6, q7, e9, -⟩ := h
  injection e9 with e9
  exact ⟨A, c, B, d, C, e, g, e9⟩
theorem VolQ.lits {u : World} {b : Nat} {o : Option VolN} {cs : Array Value} (h : VolQ u b o (.agg cs)) : ∃ k A n0 c B n1 d C n2 e E n3 f m, cs = #[.int .i64 k, .slice A n0 c, .slice B n1 d, .slice C n2 e, .slice E n3 f, .int .i64 m] := by
  cases o with
  | none =>
    have e : (Value.agg cs) = .agg #[.int .i64 0, .slice none 0 0, .slice none 0 0, .slice none 0 0, .slice none 0 0, .int .i64 0] := h
    injection e with e
    exact ⟨_, _, _, _, _, _, _, _, _, _, _, _, _, _, e⟩
  | some x =>
    obtain ⟨A, c, B, d, C, e, g, e9⟩ := VolO.lits h
    exact ⟨_, _, _, _, _, _, _, _, _, _, _, _, _, _, e9⟩
theorem VolQ.out {u u' : World} {b p : Nat} {o : Option VolN} {v : Value} (h : VolQ u b o v) (hg : u.grownBy u' (some p)) (hp : p < b) : VolQ u' b o v := by
  cases o with
  | none => exact h
  | some x => exact VolO.out h hg hp
theorem VolQ.mono {u : World} {b b' : Nat} {o : Option VolN} {v : Value} (h : VolQ u b o v) (hb : b' ≤ b) : VolQ u b' o v := by
  cases o with
  | none => exact h
  | some x => exact VolO.mono h hb
theorem touchVol_none {x : VolN} {a value : Int} (h : ¬ 0 ≤ regionOf x.key x.counts a) : touchVol x a value = (x, 0, 1) := by unfold touchVol; rw [if_neg h]
set_option maxRecDepth 20000 in
set_option maxHeartbeats 4000000 in
theorem readClo_calls (a0 a1 a2 a3 : Addr) (x : VolN) (cs : Array Value) (b p vb pb : Nat) (a : Int) (u : World) (he : Errs u a0 a1 a2 a3) (hx : x.Inv) (hv : VolO u b x (.agg cs)) (hp : CellsAt u p 31 cs) (hpb : p < b) (hbu : b ≤ u.heap.size) (ha : I64 a) (hca : CellsAt u pb 2 #[.int .i64 a]) (hcv : CellsAt u vb 2 #[.int .i64 0]) (hvb : vb < b) :
    Calls Tryz.prog 41 #[.pointer (some ⟨p, 0, none⟩), .pointer (some ⟨pb, 0, none⟩), .pointer (some ⟨vb, 0, none⟩)] u (WorkQ a0 b cs (some vb) (touchVol x a (-1)) u) := by
  obtain ⟨A, c, B, d, C, e, g, rfl⟩ := hv.lits
  by_cases hr : 0 ≤ regionOf x.key x.counts a
  · have T := Lib.hid (touch_some a0 a1 a2 a3 x A B C c d e g b p a (-1) u he hx hv hp hpb ha (.inl rfl) hr)
    have HCV := Lib.hid hcv
    have cc := hca.cell
    clear he hx hv hp ha hr hca hcv
    generalize touchVol x a (-1) = r at T ⊢
    obtain ⟨y, z, q⟩ := r
    go_enter Tryz.func41, Tryz.ntmps41
    go_wp2_with fail
    refine T.out.mono ?_; rintro e1 w1 ⟨rfl, hv1, hb1⟩
    have c1 := HCV.out.below hb1 hvb
    clear T cc
    have q0 := c1.cell
    have qf := c1.frozen
    have gs := gb_set (gb_refl w1 (some vb)) 0 (.int .i64 z)
    have FN := Lib.hid (show VolO _ b y _ ∧ TurnB b (some vb) u _ ∧ CellsAt _ vb 2 #[.int .i64 z] from ⟨hv1.out gs hvb, (TurnB.of hb1).trans (TurnB.gb gs (Nat.le_trans hbu hb1.size)), c1.set_ 0 (.int .i64 z)⟩)
    clear hv1 hb1 c1 gs HCV
    go_wp2_with fail
    go_ret
    exact ⟨.inl rfl, FN.out.1, FN.out.2.1, fun k hk => by injection hk with hk; subst hk; exact FN.out.2.2⟩
  · rw [touchVol_none hr]
    have T := Lib.hid (touch_none a0 a1 a2 a3 x A B C c d e g b p a (-1) u he hx.short hv hp ha hr)
    have HCV := Lib.hid hcv
    have HV := Lib.hid hv
    have cc := hca.cell
    clear he hx hv hp ha hr hca hcv
    go_enter Tryz.func41, Tryz.ntmps41
    go_wp2_with fail
    refine T.out.mono ?_; rintro e1 w1 ⟨rfl, hb1⟩
    have FN := Lib.hid (show VolO w1 b x _ ∧ TurnB b (some vb) u w1 ∧ CellsAt w1 vb 2 #[.int .i64 0] from ⟨HV.out.below hb1, (TurnB.of hb1).mono hbu, HCV.out.below hb1 HCV.out.lt⟩)
    clear hb1 HV HCV T cc
    go_wp2_with fail
    exact ⟨rfl, .inr ⟨rfl, rfl⟩, FN.out.1, FN.out.2.1, fun k hk => by injection hk with hk; subst hk; exact FN.out.2.2⟩
set_option maxRecDepth 20000 in
set_option maxHeartbeats 4000000 in
theorem writeClo_calls (a0 a1 a2 a3 : Addr) (x : VolN) (cs : Array Value) (b p vb pb : Nat) (a value : Int) (u : World) (he : Errs u a0 a1 a2 a3) (hx : x.Inv) (hv : VolO u b x (.agg cs)) (hp : CellsAt u p 31 cs) (hpb : p < b) (hbu : b ≤ u.heap.size) (ha : I64 a) (hca : CellsAt u pb 2 #[.int .i64 a]) (hcv : CellsAt u vb 2 #[.int .i64 value]) :
    Calls Tryz.prog 36 #[.pointer (some ⟨p, 0, none⟩), .pointer (some ⟨vb, 0, none⟩), .pointer (some ⟨pb, 0, none⟩)] u (WorkQ a0 b cs none (writeVol x a value) u) := by
  obtain ⟨A, c, B, d, C, e, g, rfl⟩ := hv.lits
  have IV := Lib.hid (fun u => isValueB value u)
  have cc := hca.cell
  have cw := hcv.cell
  unfold writeVol
  by_cases hval : isVal value
  · rw [if_pos hval]
    rw [decide_eq_true hval] at IV
    have DY := Lib.hid (demand_yes u)
    by_cases hr : 0 ≤ regionOf x.key x.counts a
    · have T := Lib.hid (touch_some a0 a1 a2 a3 x A B C c d e g b p a value u he hx hv hp hpb ha (.inr hval) hr)
      clear he hx hv hp ha hr hca hcv hval
      generalize touchVol x a value = r at T ⊢
      obtain ⟨y, z, q⟩ := r
      go_enter Tryz.func36, Tryz.ntmps36
      go_wp2_with fail
      refine (IV.out _).mono ?_; rintro e1 w1 ⟨rfl, rfl⟩
      go_wp2_with fail
      refine DY.out.mono ?_; rintro e1 w1 ⟨rfl, rfl⟩
      go_wp2_with fail
      refine T.out.mono ?_; rintro e1 w1 ⟨rfl, hv1, hb1⟩
      have FN := Lib.hid (show VolO w1 b y _ ∧ TurnB b none u w1 from ⟨hv1, TurnB.of hb1⟩)
      clear hv1 hb1 T cc cw
      go_wp2_with fail
      go_ret
      exact ⟨.inl rfl, FN.out.1, FN.out.2, fun k hk => by cases hk⟩
    · rw [touchVol_none hr]
      have T := Lib.hid (touch_none a0 a1 a2 a3 x A B C c d e g b p a value u he hx.short hv hp ha hr)
      have HV := Lib.hid hv
      clear he hx hv hp ha hr hca hcv hval
      go_enter Tryz.func36, Tryz.ntmps36
      go_wp2_with fail
      refine (IV.out _).mono ?_; rintro e1 w1 ⟨rfl, rfl⟩
      go_wp2_with fail
      refine DY.out.mono ?_; rintro e1 w1 ⟨rfl, rfl⟩
      go_wp2_with fail
      refine T.out.mono ?_; rintro e1 w1 ⟨rfl, hb1⟩
      have FN := Lib.hid (show VolO w1 b x _ ∧ TurnB b none u w1 from ⟨HV.out.below hb1, (TurnB.of hb1).mono hbu⟩)
      clear hb1 HV T cc cw
      go_wp2_with fail
      exact ⟨rfl, .inr ⟨rfl, rfl⟩, FN.out.1, FN.out.2, fun k hk => by cases hk⟩
  · rw [if_neg hval]
    rw [decide_eq_false hval] at IV
    have DN := Lib.hid (demand_no a0 a1 a2 a3 u he)
    have HV := Lib.hid hv
    clear he hx hv hp ha hca hcv hval
    go_enter Tryz.func36, Tryz.ntmps36
    go_wp2_with fail
    refine (IV.out _).mono ?_; rintro e1 w1 ⟨rfl, rfl⟩
    go_wp2_with fail
    refine DN.out.mono ?_; rintro e1 w1 ⟨rfl, rfl⟩
    go_wp2_with fail
    exact ⟨rfl, .inr ⟨rfl, rfl⟩, HV.out, TurnB.of (Below.refl _ _), fun k hk => by cases hk⟩
set_option maxRecDepth 20000 in
set_option maxHeartbeats 8000000 in
theorem implWriteIn_calls (a0 a1 a2 a3 : Addr) (x : VolG) (v : Value) (a value : Int) (w : World) (hx : x.Short) (hi : x.Int64) (hr : RdG w w.heap.size x v) (he : Errs w a0 a1 a2 a3) (ha : I64 a) :
    Calls Tryz.prog 10 #[v, .int .i64 a, .int .i64 value] w (Ans2 w (writeG x a value)) := by
  obtain ⟨A, c, B, d, C, e, E, sc, rfl, i1, i2, i3, i4, i5, i6⟩ := hr
  have hmf : ∀ (fn : Fn) (first cap : Array Value) (w : World), (Instr.makeFunc fn first cap).run Tryz.prog w = .ok (.func fn first cap) w := fun _ _ _ _ => rfl
  have K0 := Lib.hid (show Kept w [(w.heap.size + 1 + 1 + 1, 31, #[.int .i64 0, .slice none 0 0, .slice none 0 0, .slice none 0 0, .slice none 0 0, .int .i64 0]), (w.heap.size + 1 + 1, 2, #[.int .i64 value]), (w.heap.size + 1, 2, #[.int .i64 a]), (w.heap.size, 31, #[.int .i64 x.key, .slice A x.counts.length c, .slice B x.trusts.length d, .slice C x.cells.length e, .slice E x.slots.length sc, .int .i64 x.count])] _ from (((((Kept.refl w).put1 _ _ #[.int .i64 x.key, .slice A x.counts.length c, .slice B x.trusts.length d, .slice C x.cells.length e, .slice E x.slots.length sc, .int .i64 x.count] rfl).put1 _ _ #[.int .i64 a] (by simp)).put1 _ _ #[.int .i64 value] (by simp)).put1 _ _ #[.int .i64 0, .slice none 0 0, .slice none 0 0, .slice none 0 0, .slice none 0 0, .int .i64 0] (by simp)))
  have HR := Lib.hid (show RdG w w.heap.size x (.agg #[.int .i64 x.key, .slice A x.counts.length c, .slice B x.trusts.length d, .slice C x.cells.length e, .slice E x.slots.length sc, .int .i64 x.count]) from ⟨A, c, B, d, C, e, E, sc, rfl, i1, i2, i3, i4, i5, i6⟩)
  have WC : ∀ (u : World), Kept w [(w.heap.size + 1 + 1 + 1, 31, #[.int .i64 0, .slice none 0 0, .slice none 0 0, .slice none 0 0, .slice none 0 0, .int .i64 0]), (w.heap.size + 1 + 1, 2, #[.int .i64 value]), (w.heap.size + 1, 2, #[.int .i64 a]), (w.heap.size, 31, #[.int .i64 x.key, .slice A x.counts.length c, .slice B x.trusts.length d, .slice C x.cells.length e, .slice E x.slots.length sc, .int .i64 x.count])] u → Calls Tryz.prog 35 #[.agg #[.int .i64 x.key, .slice A x.counts.length c, .slice B x.trusts.length d, .slice C x.cells.length e, .slice E x.slots.length sc, .int .i64 x.count], .func (.func 36) #[] #[.pointer (some ⟨w.heap.size + 1 + 1, 0, none⟩), .pointer (some ⟨w.heap.size + 1, 0, none⟩)]] u (WorkA u none (((writeG x a value).1, (if x.okB then (writeVol x.toN a value).2.1 else 0), (writeG x a value).2))) := fun u hk => by
    have hE := he.below hk.1
    by_cases hok : x.okB = true
    · rw [show (((writeG x a value).1, (if x.okB then (writeVol x.toN a value).2.1 else 0), (writeG x a value).2)) = (some (writeVol x.toN a value).1, (writeVol x.toN a value).2) from by unfold writeG; simp [hok]]
      exact workedOn_WriteIn_yes a0 a1 a2 a3 x (.agg #[.int .i64 x.key, .slice A x.counts.length c, .slice B x.trusts.length d, .slice C x.cells.length e, .slice E x.slots.length sc, .int .i64 x.count]) (w.heap.size + 1 + 1) (w.heap.size + 1) (writeVol x.toN a value) u hx hi (HR.out.grow hk.1) hE (fun k e => by cases e) hok (fun u' b p cs hb hp1 hpb hbu hcp hv => writeClo_calls a0 a1 a2 a3 x.toN cs b p (w.heap.size + 1 + 1) (w.heap.size + 1) a value u' (hE.below hb) (VolG.inv hi hok).2 hv hcp hpb hbu ha ((hk.below hb).at_ (by simp)) ((hk.below hb).at_ (by simp)))
    · rw [show (((writeG x a value).1, (if x.okB then (writeVol x.toN a value).2.1 else 0), (writeG x a value).2)) = (none, 0, 1) from by unfold writeG; simp [hok]]
      exact workedOn_WriteIn_no a0 a1 a2 a3 x (.agg #[.int .i64 x.key, .slice A x.counts.length c, .slice B x.trusts.length d, .slice C x.cells.length e, .slice E x.slots.length sc, .int .i64 x.count]) (w.heap.size + 1 + 1) (w.heap.size + 1) u hx hi (HR.out.grow hk.1) hE (fun k e => by cases e) (by simpa using hok)
  have HWC := Lib.hid WC
  clear WC hx hi he i1 i2 i3 i4 i5 i6 HR
  have qd : (((writeG x a value).1, (if x.okB then (writeVol x.toN a value).2.1 else 0), (writeG x a value).2)).1 = (writeG x a value).1 ∧ (((writeG x a value).1, (if x.okB then (writeVol x.toN a value).2.1 else 0), (writeG x a value).2)).2.2 = (writeG x a value).2 := ⟨rfl, rfl⟩
  generalize (((writeG x a value).1, (if x.okB then (writeVol x.toN a value).2.1 else 0), (writeG x a value).2)) = qq at HWC qd
  generalize (writeG x a value) = ga at qd ⊢
  obtain ⟨o, qz⟩ := ga
  obtain ⟨o', z', q'⟩ := qq
  obtain ⟨rfl, rfl⟩ := qd
  go_enter Tryz.func10, Tryz.ntmps10
  go_upto_region 1 with fail
  have k0 := K0.out
  clear K0
  generalize World.alloc _ _ = w0 at k0 ⊢
  obtain ⟨kc0, kf0, kc1, kf1, kc2, kf2, kc3, kf3, -⟩ := k0.rd
  go_wp2_with fail
  refine (HWC.out _ k0).mono ?_; rintro e1 w1 ⟨cs, rfl, hv1, ht1, -⟩
  have k1 := k0.below ht1.none
  have hs1 : w.heap.size ≤ w0.heap.size := k0.1.size
  have hlt : w.heap.size + 1 + 1 + 1 < w0.heap.size := k0.lt (x := (w.heap.size + 1 + 1 + 1, 31, #[.int .i64 0, .slice none 0 0, .slice none 0 0, .slice none 0 0, .slice none 0 0, .int .i64 0])) (by simp)
  obtain ⟨k9, A9, n0, c9, B9, n1, d9, C9, n2, e9, E9, n3, f9, m9, rfl⟩ := hv1.lits
  clear k0 ht1 HWC kc0 kf0 kc1 kf1 kc2 kf2 kc3 kf3
  obtain ⟨kc0, kf0, kc1, kf1, kc2, kf2, kc3, kf3, -⟩ := k1.rd
  have K1 := Lib.hid k1
  have HV := Lib.hid hv1
  clear k1 hv1
  go_wp2_with fail
  obtain ⟨w9, e9', ⟨d0, d1, d2, d3, d4, d5⟩, hb9, hg9⟩ := vol_end (w := w) (x0 := .int .i64 k9) (x1 := .slice A9 n0 c9) (x2 := .slice B9 n1 d9) (x3 := .slice C9 n2 e9) (x4 := .slice E9 n3 f9) (x5 := .int .i64 m9) (K1.out.at_ (p := w.heap.size + 1 + 1 + 1) (t := 31) (cs := #[.int .i64 0, .slice none 0 0, .slice none 0 0, .slice none 0 0, .slice none 0 0, .int .i64 0]) (by simp)) K1.out.1 (by omega)
  rw [e9']
  exact bodyPost_ret (v := .tuple #[.agg #[.int .i64 k9, .slice A9 n0 c9, .slice B9 n1 d9, .slice C9 n2 e9, .slice E9 n3 f9, .int .i64 m9], .int .i64 q']) (by simp [results, Tryz.results10, go_sem, d0, d1, d2, d3, d4, d5]) rfl ⟨_, rfl, (HV.out.out hg9 hlt).mono hs1, hb9⟩
theorem ansWriteIn (e0 e1 e2 e3 : Addr) : AnsWriteIn (fun u => Errs u e0 e1 e2 e3) := fun x v w a value hx hi h he ha => implWriteIn_calls e0 e1 e2 e3 x v a value w hx hi h he ha
def KQ (b : World) (L : List Box) (base : Nat) (o : Option VolN) (v : Value) (u : World) : Prop := Kept b L u ∧ VolQ u base o v
def One (j : Nat) (K0 K1 : World → Prop) (D : Nat → Bool) (u : World) : Prop := (D j = false → K0 u) ∧ (D j = true → K1 u)
theorem One.all {j : Nat} {K0 K1 R : World → Prop} {D : Nat → Bool} {u : World} (h : One j K0 K1 D u) (f0 : K0 u → R u) (f1 : K1 u → R u) : R u := by
  cases e : D j with
  | false => exact f0 (h.1 e)
  | true => exact f1 (h.2 e)
theorem One.put {j : Nat} {K0 K1 : World → Prop} {D : Nat → Bool} {u : World} (h : K1 u) : One j K0 K1 (setD D j) u := ⟨fun e => by unfold setD at e; simp at e, fun _ => h⟩
theorem VolQ.drew {u : World} {base : Nat} {o : Option VolN} {v : Value} (h : VolQ u base o v) : VolQ u.drew base o v := h.below ⟨rfl, rfl, rfl, Nat.le_refl _, fun _ _ => rfl⟩
set_option maxRecDepth 20000 in
set_option maxHeartbeats 8000000 in
theorem implReadIn_calls (a0 a1 a2 a3 : Addr) (x : VolG) (v : Value) (a : Int) (w : World) (hx : x.Short) (hi : x.Int64) (hr : RdG w w.heap.size x v) (he : Errs w a0 a1 a2 a3) (ha : I64 a) :
    Calls Tryz.prog 13 #[v, .int .i64 a] w (Ans3 w (readG x a)) := by
  obtain ⟨A, c, B, d, C, e, E, sc, rfl, i1, i2, i3, i4, i5, i6⟩ := hr
  have hmf : ∀ (fn : Fn) (first cap : Array Value) (w : World), (Instr.makeFunc fn first cap).run Tryz.prog w = .ok (.func fn first cap) w := fun _ _ _ _ => rfl
  have K0 := Lib.hid (show Kept w [(w.heap.size + 1 + 1 + 1, 2, #[.int .i64 0]), (w.heap.size + 1 + 1, 31, #[.int .i64 0, .slice none 0 0, .slice none 0 0, .slice none 0 0, .slice none 0 0, .int .i64 0]), (w.heap.size + 1, 2, #[.int .i64 a]), (w.heap.size, 31, #[.int .i64 x.key, .slice A x.counts.length c, .slice B x.trusts.length d, .slice C x.cells.length e, .slice E x.slots.length sc, .int .i64 x.count])] _ from (((((Kept.refl w).put1 _ _ #[.int .i64 x.key, .slice A x.counts.length c, .slice B x.trusts.length d, .slice C x.cells.length e, .slice E x.slots.length sc, .int .i64 x.count] rfl).put1 _ _ #[.int .i64 a] (by simp)).put1 _ _ #[.int .i64 0, .slice none 0 0, .slice none 0 0, .slice none 0 0, .slice none 0 0, .int .i64 0] (by simp)).put1 _ _ #[.int .i64 0] (by simp)))
  have HR := Lib.hid (show RdG w w.heap.size x (.agg #[.int .i64 x.key, .slice A x.counts.length c, .slice B x.trusts.length d, .slice C x.cells.length e, .slice E x.slots.length sc, .int .i64 x.count]) from ⟨A, c, B, d, C, e, E, sc, rfl, i1, i2, i3, i4, i5, i6⟩)
  have WC : ∀ (u : World), Kept w [(w.heap.size + 1 + 1 + 1, 2, #[.int .i64 0]), (w.heap.size + 1 + 1, 31, #[.int .i64 0, .slice none 0 0, .slice none 0 0, .slice none 0 0, .slice none 0 0, .int .i64 0]), (w.heap.size + 1, 2, #[.int .i64 a]), (w.heap.size, 31, #[.int .i64 x.key, .slice A x.counts.length c, .slice B x.trusts.length d, .slice C x.cells.length e, .slice E x.slots.length sc, .int .i64 x.count])] u → Calls Tryz.prog 35 #[.agg #[.int .i64 x.key, .slice A x.counts.length c, .slice B x.trusts.length d, .slice C x.cells.length e, .slice E x.slots.length sc, .int .i64 x.count], .func (.func 41) #[] #[.pointer (some ⟨w.heap.size + 1, 0, none⟩), .pointer (some ⟨w.heap.size + 1 + 1 + 1, 0, none⟩)]] u (WorkA u (some (w.heap.size + 1 + 1 + 1)) (readG x a)) := fun u hk => by
    have hE := he.below hk.1
    by_cases hok : x.okB = true
    · rw [show readG x a = (some (touchVol x.toN a (-1)).1, (touchVol x.toN a (-1)).2) from by unfold readG; simp [hok]]
      exact workedOn_ReadIn_yes a0 a1 a2 a3 x (.agg #[.int .i64 x.key, .slice A x.counts.length c, .slice B x.trusts.length d, .slice C x.cells.length e, .slice E x.slots.length sc, .int .i64 x.count]) (w.heap.size + 1 + 1 + 1) (w.heap.size + 1) (touchVol x.toN a (-1)) u hx hi (HR.out.grow hk.1) hE (fun k e => by injection e with e; subst e; exact hk.at_ (by simp)) hok (fun u' b p cs hb hp1 hpb hbu hcp hv => readClo_calls a0 a1 a2 a3 x.toN cs b p (w.heap.size + 1 + 1 + 1) (w.heap.size + 1) a u' (hE.below hb) (VolG.inv hi hok).2 hv hcp hpb hbu ha ((hk.below hb).at_ (by simp)) ((hk.below hb).at_ (by simp)) (by have := hk.lt (x := (w.heap.size + 1 + 1 + 1, 2, #[.int .i64 0])) (by simp); simp only [] at this; omega))
    · rw [show readG x a = (none, 0, 1) from by unfold readG; simp [hok]]
      exact workedOn_ReadIn_no a0 a1 a2 a3 x (.agg #[.int .i64 x.key, .slice A x.counts.length c, .slice B x.trusts.length d, .slice C x.cells.length e, .slice E x.slots.length sc, .int .i64 x.count]) (w.heap.size + 1 + 1 + 1) (w.heap.size + 1) u hx hi (HR.out.grow hk.1) hE (fun k e => by injection e with e; subst e; exact hk.at_ (by simp)) (by simpa using hok)
  have HWC := Lib.hid WC
  clear WC hx hi he i1 i2 i3 i4 i5 i6 HR
  generalize readG x a = qq at HWC ⊢
  obtain ⟨o, z', q'⟩ := qq
  go_enter Tryz.func13, Tryz.ntmps13
  go_upto_region 2 with fail
  have k0 := K0.out
  clear K0
  generalize World.alloc _ _ = w0 at k0 ⊢
  obtain ⟨kc0, kf0, kc1, kf1, kc2, kf2, kc3, kf3, -⟩ := k0.rd
  go_wp2_with fail
  refine (HWC.out _ k0).mono ?_; rintro e1 w1 ⟨cs, rfl, hv1, ht1, hcv⟩
  have k1 : Kept w [(w.heap.size + 1 + 1 + 1, 2, #[.int .i64 z']), (w.heap.size + 1 + 1, 31, #[.int .i64 0, .slice none 0 0, .slice none 0 0, .slice none 0 0, .slice none 0 0, .int .i64 0]), (w.heap.size + 1, 2, #[.int .i64 a]), (w.heap.size, 31, #[.int .i64 x.key, .slice A x.counts.length c, .slice B x.trusts.length d, .slice C x.cells.length e, .slice E x.slots.length sc, .int .i64 x.count])] w1 := k0.put (k := 0) rfl (by unfold Apart; simp <;> omega) ht1.grown (hcv _ rfl)
  have hs1 : w.heap.size ≤ w0.heap.size := k0.1.size
  have hlt : w.heap.size + 1 + 1 < w0.heap.size := k0.lt (x := (w.heap.size + 1 + 1, 31, #[.int .i64 0, .slice none 0 0, .slice none 0 0, .slice none 0 0, .slice none 0 0, .int .i64 0])) (by simp)
  have hl1 : w.heap.size + 1 + 1 + 1 < w1.heap.size := k1.lt (x := (w.heap.size + 1 + 1 + 1, 2, #[.int .i64 z'])) (by simp)
  obtain ⟨k9, A9, n0, c9, B9, n1, d9, C9, n2, e9, E9, n3, f9, m9, rfl⟩ := hv1.lits
  clear k0 ht1 hcv HWC kc0 kf0 kc1 kf1 kc2 kf2 kc3 kf3
  go_upto_region 3 with fail
  have k2 : Kept w [(w1.heap.size, 31, #[.int .i64 k9, .slice A9 n0 c9, .slice B9 n1 d9, .slice C9 n2 e9, .slice E9 n3 f9, .int .i64 m9]), (w.heap.size + 1 + 1 + 1, 2, #[.int .i64 z']), (w.heap.size + 1 + 1, 31, #[.int .i64 0, .slice none 0 0, .slice none 0 0, .slice none 0 0, .slice none 0 0, .int .i64 0]), (w.heap.size + 1, 2, #[.int .i64 a]), (w.heap.size, 31, #[.int .i64 x.key, .slice A x.counts.length c, .slice B x.trusts.length d, .slice C x.cells.length e, .slice E x.slots.length sc, .int .i64 x.count])] _ := k1.put1 w1.heap.size 31 #[.int .i64 k9, .slice A9 n0 c9, .slice B9 n1 d9, .slice C9 n2 e9, .slice E9 n3 f9, .int .i64 m9] rfl
  have hv2 : VolQ _ w0.heap.size o (.agg #[.int .i64 k9, .slice A9 n0 c9, .slice B9 n1 d9, .slice C9 n2 e9, .slice E9 n3 f9, .int .i64 m9]) := hv1.below (allocP w1 (.cells #[.int .i64 k9, .slice A9 n0 c9, .slice B9 n1 d9, .slice C9 n2 e9, .slice E9 n3 f9, .int .i64 m9] 31))
  clear k1 hv1
  generalize World.alloc w1 _ = w2 at k2 hv2 ⊢
  refine wp_region_free [false, false, false, true, false, false] (ShV []) (fun D _ u => One 3 (KQ w [(w1.heap.size, 31, #[.int .i64 k9, .slice A9 n0 c9, .slice B9 n1 d9, .slice C9 n2 e9, .slice E9 n3 f9, .int .i64 m9]), (w.heap.size + 1 + 1 + 1, 2, #[.int .i64 z']), (w.heap.size + 1 + 1, 31, #[.int .i64 0, .slice none 0 0, .slice none 0 0, .slice none 0 0, .slice none 0 0, .int .i64 0]), (w.heap.size + 1, 2, #[.int .i64 a]), (w.heap.size, 31, #[.int .i64 x.key, .slice A x.counts.length c, .slice B x.trusts.length d, .slice C x.cells.length e, .slice E x.slots.length sc, .int .i64 x.count])] w0.heap.size o (.agg #[.int .i64 k9, .slice A9 n0 c9, .slice B9 n1 d9, .slice C9 n2 e9, .slice E9 n3 f9, .int .i64 m9])) (KQ w [(w1.heap.size, 31, #[.int .i64 k9, .slice A9 n0 c9, .slice B9 n1 d9, .slice C9 n2 e9, .slice E9 n3 f9, .int .i64 m9]), (w.heap.size + 1 + 1 + 1, 2, #[.int .i64 z']), (w.heap.size + 1 + 1, 31, #[.int .i64 k9, .slice A9 n0 c9, .slice B9 n1 d9, .slice C9 n2 e9, .slice E9 n3 f9, .int .i64 m9]), (w.heap.size + 1, 2, #[.int .i64 a]), (w.heap.size, 31, #[.int .i64 x.key, .slice A x.counts.length c, .slice B x.trusts.length d, .slice C x.cells.length e, .slice E x.slots.length sc, .int .i64 x.count])] w0.heap.size o (.agg #[.int .i64 k9, .slice A9 n0 c9, .slice B9 n1 d9, .slice C9 n2 e9, .slice E9 n3 f9, .int .i64 m9])) D u) (by kernel_rfl) (by kernel_rfl) (fun γ => by kernel_rfl) (fun D γ γ' w _ h => h) (ShV.inh _) (fun γ => ⟨fun _ => ⟨k2.drew, hv2.drew⟩, fun e => (by cases e)⟩) (fun γ hγ => ?_)
  clear k2 hv2
  have g3 : γ 3 = undef := hγ 3 rfl
  apply Exists.intro
  refine ⟨fun D => ?_, ?_, ?_⟩
  · simp only [hushL, cond_true, cond_false, Nat.reduceAdd, g3]
    iterate 6 (first
      | go_big_quiet_skip
      | (go_big_quiet_want
         go_big_quiet_op
         first
           | go_big_quiet_on
           | (apply Exists.intro
              refine ⟨fun u hu => ?_, ?_⟩
              · first
                  | with_reducible rfl
                  | (obtain ⟨kc0, kf0, kc1, kf1, -⟩ := One.all hu (R := fun u => Rd u [(w1.heap.size, 31, #[.int .i64 k9, .slice A9 n0 c9, .slice B9 n1 d9, .slice C9 n2 e9, .slice E9 n3 f9, .int .i64 m9]), (w.heap.size + 1 + 1 + 1, 2, #[.int .i64 z'])]) (fun h => (h.1.sub (by intro y hy; simp at hy ⊢; rcases hy with rfl | rfl <;> simp)).rd) (fun h => (h.1.sub (by intro y hy; simp at hy ⊢; rcases hy with rfl | rfl <;> simp)).rd); go_simp; first | done | with_reducible rfl)
              go_big_quiet_on)))
    exact wpQuiet_nil rfl
  · simp only [freeOk, Nat.reduceAdd]
    refine ⟨fun D u hD hd hu => ?_, trivial⟩
    · have kk := hu.1 hD
      exact steps_store (kk.1.at_ (p := w.heap.size + 1 + 1) (t := 31) (cs := #[.int .i64 0, .slice none 0 0, .slice none 0 0, .slice none 0 0, .slice none 0 0, .int .i64 0]) (by simp)) rfl rfl rfl (by kernel_rfl) rfl (by simp [Value.oneCell']) (fun w' hc hg => ⟨rfl, One.put ⟨(show Kept w [(w1.heap.size, 31, #[.int .i64 k9, .slice A9 n0 c9, .slice B9 n1 d9, .slice C9 n2 e9, .slice E9 n3 f9, .int .i64 m9]), (w.heap.size + 1 + 1 + 1, 2, #[.int .i64 z']), (w.heap.size + 1 + 1, 31, #[.int .i64 k9, .slice A9 n0 c9, .slice B9 n1 d9, .slice C9 n2 e9, .slice E9 n3 f9, .int .i64 m9]), (w.heap.size + 1, 2, #[.int .i64 a]), (w.heap.size, 31, #[.int .i64 x.key, .slice A x.counts.length c, .slice B x.trusts.length d, .slice C x.cells.length e, .slice E x.slots.length sc, .int .i64 x.count])] w' from kk.1.put (k := 2) rfl (by unfold Apart; simp <;> omega) hg hc), kk.2.out hg hlt⟩⟩)
  intro D w6 hD hu
  obtain ⟨k6, hv6⟩ := hu.2 (hD 3 (by simp) rfl)
  clear hD hu g3 hγ
  obtain ⟨kc0, kf0, kc1, kf1, kc2, kf2, kc3, kf3, kc4, kf4, -⟩ := k6.rd
  have FN := Lib.hid (show Ans3 w (o, z', q') (.returned (.tuple #[.agg #[.int .i64 k9, .slice A9 n0 c9, .slice B9 n1 d9, .slice C9 n2 e9, .slice E9 n3 f9, .int .i64 m9], .int .i64 z', .int .i64 q'])) w6 from ⟨_, rfl, hv6.mono hs1, k6.1⟩)
  clear k6 hv6
  go_wp2_with fail
  exact bodyPost_ret (v := .tuple #[.agg #[.int .i64 k9, .slice A9 n0 c9, .slice B9 n1 d9, .slice C9 n2 e9, .slice E9 n3 f9, .int .i64 m9], .int .i64 z', .int .i64 q']) (by simp [results, Tryz.results13, go_sem, kc2]) rfl FN.out
theorem ansReadIn (e0 e1 e2 e3 : Addr) : AnsReadIn (fun u => Errs u e0 e1 e2 e3) := fun x v w a hx hi h he ha => implReadIn_calls e0 e1 e2 e3 x v a w hx hi h he ha
end Go.Proofs.YtgaecedhkbneaaaGreatDoor.Mx

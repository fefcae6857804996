import Derived.Test.YtgaecedhkbneaaaGreatDoorH29
import Derived.Test.YtgaecedhkbneaaaGreatDoorH16
import Derived.Test.YtgaecedhkbneaaaGreatDoorH20
import Derived.Test.YtgaecedhkbneaaaGreatDoorH17
namespace Go.Proofs.YtgaecedhkbneaaaGreatDoor.Mx
open Go.ChangeShapes Go.WideShapes Go.ChangeAt Go.RowKit
set_option linter.unusedVariables false
def NB (wb : World) (gT gC : Nat) (T : Array Value) (o : Nat) (D : Array Value) (q : Nat) (t : Tru) (c : Int × Int) : World :=
  (wb.setRow gT (putT T o (truV t))).setRow gC ((D.setIfInBounds q (.int .i64 c.1)).setIfInBounds (q + 1) (.int .i64 c.2))
set_option maxRecDepth 20000 in
set_option maxHeartbeats 4000000 in
theorem scanWay_of (a0 a1 a2 a3 : Addr) (key : Int) (l : List Int) (bb oo cap r : Nat) (t : Tru) (ct : Int × Int) (wb : World) (gT o gC q k : Nat) (T D : Array Value) (P : Int → World → Prop) (S : World → Prop)
    (hT : o + 8 ≤ T.size) (hA : CellsAt wb gT 80 (putT T o (truV t))) (hD : CellsAt wb gC 112 D) (hd0 : D[q + k * 2]? = some (.int .i64 ct.1)) (hd1 : D[q + k * 2 + 1]? = some (.int .i64 ct.2)) (hok : scanOk key l r t ct.1 ct.2)
    (hn : l.length ≤ 1048576) (hcap : l.length ≤ cap) (hI : Ints wb .i64 wb.heap.size (some ⟨bb, oo, none⟩) l) (he : Errs wb a0 a1 a2 a3) (heN : ∀ t' c', Errs (NB wb gT gC T o D (q + k * 2) t' c') a0 a1 a2 a3) (hbT : bb ≠ gT) (hbC : bb ≠ gC)
    (hP : (scanned key l r t ct.1 ct.2).2.2 ≠ 0 → P (scanned key l r t ct.1 ct.2).2.2 (NB wb gT gC T o D (q + k * 2) (scanned key l r t ct.1 ct.2).1 (scanned key l r t ct.1 ct.2).2.1))
    (hS : (scanned key l r t ct.1 ct.2).2.2 = 0 → S (NB wb gT gC T o D (q + k * 2) (scanned key l r t ct.1 ct.2).1 (scanned key l r t ct.1 ct.2).2.1)) :
    ScanWay key bb oo l.length cap r gT o gC q P S k wb := by
  have IA := fun (u : World) (hb : Below wb.heap.size wb u) => (hI.below hb (Nat.le_refl _)).more hb.size
  obtain ⟨t0, t1, t2, t3, t4, t5, t6, t7⟩ := t
  obtain ⟨ct, cv⟩ := ct
  have hr : r < l.length := by have := hok.1.2.1; omega
  have hcn := hok.2
  unfold isCell isTm isVal at hcn
  have hct : I64 ct := ⟨by omega, by omega⟩
  have hcv : I64 cv := ⟨by omega, by omega⟩
  obtain ⟨b', o', e', hbb, hcc⟩ := hI r hr
  simp only [Option.some.injEq, Addr.mk.injEq, and_true] at e'
  obtain ⟨rfl, rfl⟩ := e'
  refine ⟨T, D, t0, t1, t2, t3, t4, t5, t6, t7, ct, cv, hT, hA, hD, (hD.cell _).trans hd0, (hD.cell _).trans hd1, hbb, hbT, hbC, ?_⟩
  unfold scanned at hP hS
  rw [if_pos hok] at hP hS
  cases t7 with
  | true =>
    rw [if_pos rfl] at hP
    exact .inl ⟨a1, t0, t1, t2, t3, t4, t5, t6, true, ct, cv, 2, fun u hb => scanRef_failed a0 a1 a2 a3 key r ct cv _ l cap t0 t1 t2 t3 t4 t5 t6 u hn hcap (IA u hb) hct hcv (he.below hb) hok, fun u p hb hp => codeOf_1 p a0 a1 a2 a3 _ u ((heN ⟨t0, t1, t2, t3, t4, t5, t6, true⟩ (ct, cv)).below hb) hp, he.1, hP (by simp)⟩
  | false =>
    rw [if_neg (by simp)] at hP hS
    by_cases h1 : 100000 ≤ t0 ∨ 1000 ≤ t1
    · rw [if_pos h1] at hP
      exact .inl ⟨a2, t0, t1, t2, t3, t4, t5, t6, false, ct, cv, 3, fun u hb => scanRef_spent a0 a1 a2 a3 key r ct cv _ l cap t0 t1 t2 t3 t4 t5 t6 u hn hcap (IA u hb) hct hcv (he.below hb) hok h1, fun u p hb hp => codeOf_2 p a0 a1 a2 a3 _ u ((heN ⟨t0, t1, t2, t3, t4, t5, t6, false⟩ (ct, cv)).below hb) hp, he.1, hP (by simp)⟩
    · rw [if_neg h1] at hP hS
      by_cases h2 : t0 < ct
      · rw [if_pos h2] at hP
        exact .inl ⟨a3, t0, t1, t2, t3, t4, t5, t6, true, ct, cv, 4, fun u hb => scanRef_caught a0 a1 a2 a3 key r ct cv _ l cap t0 t1 t2 t3 t4 t5 t6 u hn hcap (IA u hb) hct hcv (he.below hb) hok h1 h2, fun u p hb hp => codeOf_3 p a0 a1 a2 a3 _ u ((heN ⟨t0, t1, t2, t3, t4, t5, t6, true⟩ (ct, cv)).below hb) hp, he.1, hP (by simp)⟩
      · rw [if_neg h2] at hP hS
        have hk := hok.1.1.1
        have hkey : I64 key := by exact ⟨by omega, by omega⟩
        have hf : 0 ≤ firstOf key l r ∧ firstOf key l r ≤ 32 := by
          rw [firstOf_yes hok.1.1 hr]
          have h1 := upTo_bd hok.1.1.2.2.1 (show r ≤ l.length by omega)
          have h2 := hok.1.1.2.1.2
          omega
        have hTm := hok.1.2.2.1
        have hE := hok.1.2.2.2.1
        have hC := hok.1.2.2.2.2.1
        have h8 := hok.1.1.2.2.1 r hr
        unfold isTm at hTm
        rw [Int.toNat_natCast] at hC
        simp only [] at hTm hE hC
        rw [Int.toNat_natCast] at hP hS
        have FC := fun (u : World) (hb : Below wb.heap.size wb u) => firstOf_calls key r (some ⟨bb, oo, none⟩) l cap u (by unfold maxLen; omega) hcap (IA u hb)
        have R := fun (u : World) (hb : Below wb.heap.size wb u) => scanRef_none a0 a1 a2 a3 key r ct cv (some ⟨bb, oo, none⟩) l cap t0 t1 t2 t3 t4 t5 t6 u hn hcap (IA u hb) hct hcv (he.below hb) hok h1 h2
        unfold verdictOf scanMid at hP
        unfold scanMid at hS
        simp only [] at hP hS
        generalize firstOf key l r = f at hf FC hP hS
        have hw : IntKind.i64.wrap (f + t2) = f + t2 := IntWalk.i64_in _ (by omega)
        have GC := fun (u : World) (hc : CellsAt u gT 80 (putT T o [.int .i64 t0, .int .i64 t1, .int .i64 t2, .int .i64 t3, .int .i64 t4, .int .i64 t5, .int .i64 t6, .bool false])) => goThroughO_calls key (f + t2) ct cv gT T o hT t0 t1 t2 t3 t4 t5 t6 false u hkey ⟨by omega, by omega⟩ hct hcv hTm.1 hTm.2 hC.1 (by omega) hc
        refine .inr ⟨f, _, _, _, _, _, rfl, hcc, hw, R, FC, GC, ?_⟩
        by_cases h3 : t2 + 1 < l.getD r 0
        · rw [if_pos h3] at hS
          exact .inl ⟨h3, hS rfl⟩
        · rw [if_neg h3] at hP
          right
          by_cases h4 : (addOf t3 (tagIn key (f + t2) ct cv)) = t4
          · have h4' := h4
            unfold tagIn at h4'
            rw [if_pos h4'] at hP
            exact .inl ⟨h3, by simpa using h4, hE.1, hE.2, hP (by simp)⟩
          · have h4' := h4
            unfold tagIn at h4'
            rw [if_neg h4'] at hP
            exact .inr ⟨h3, by simpa using h4, hP (by simp)⟩
noncomputable def walkN (r : Int) : Nat → VolN → VolN × Int
  | 0, y => (y, 0)
  | n + 1, y => if (stepVol y r).2 = 0 then walkN r n (stepVol y r).1 else stepVol y r
theorem walkN_one (r : Int) (y : VolN) : walkN r 1 y = stepVol y r := by
  rw [walkN]
  split
  · rename_i h; rw [walkN]; exact Prod.ext rfl h.symm
  · rfl
theorem walkN_close (r : Int) : ∀ (n : Nat) (y : VolN), y.Fit → 0 < n → (y.counts.getD r.toNat 0) - (y.trusts.getD r.toNat default).cursor = n → walkN r n y = closeN r n y := by
  intro n
  induction n with
  | zero => intro y _ h; omega
  | succ n ih =>
    intro y hf _ hc
    by_cases h0 : (stepVol y r).2 = 0
    · obtain ⟨h1, h2⟩ := stepVol_zero hf h0
      rw [walkN, if_pos h0, closeN_on h0]
      exact ih _ (stepVol_fit hf r) (by omega) (by rw [(stepVol_len y r).2.1, h2]; omega)
    · rw [walkN, if_neg h0, closeN_end h0]
theorem firstOf_neg {key : Int} {l : List Int} {r : Int} (hp : planOk key l) (h : ¬ (0 ≤ r ∧ r < l.length)) : firstOf key l r = -1 := firstOf_no (fun h1 => h h1.2)
set_option maxRecDepth 20000 in
set_option maxHeartbeats 16000000 in
theorem unsc_none (a0 a1 a2 a3 : Addr) (x : VolN) (A B C : Option Addr) (c d e g b p : Nat) (r : Int) (w : World) (he : Errs w a0 a1 a2 a3) (hx : x.Inv) (hv : VolO w b x (.agg #[.int .i64 x.key, .slice A x.counts.length c, .slice B x.trusts.length d, .slice C x.cells.length e, .slice (some ⟨g, 0, none⟩) 2 2, .int .i64 x.count])) (hp : CellsAt w p 31 #[.int .i64 x.key, .slice A x.counts.length c, .slice B x.trusts.length d, .slice C x.cells.length e, .slice (some ⟨g, 0, none⟩) 2 2, .int .i64 x.count]) (hr : ¬ (0 ≤ r ∧ r < x.counts.length)) :
    Calls Tryz.prog 45 #[.pointer (some ⟨p, 0, none⟩), .int .i64 r] w fun e1 w' => e1 = .panicked [{ v := .iface 264 (.pointer (some a0)), recovered := false }] ∧ Below w.heap.size w w' := by
  have hv2 := hv.reads
  obtain ⟨A1, c1, B1, d1, C1, e1, b1, o1, s1, eq, i1, i2, i3, -, -, -, i7⟩ := hv2
  injection eq with eq
  simp only [Array.mk.injEq, List.cons.injEq, Value.slice.injEq, true_and, and_true] at eq
  obtain ⟨⟨rfl, rfl⟩, -⟩ := eq
  have RC := Lib.hid (fun (u : World) (hb : Below w.heap.size w u) => firstOf_calls x.key r A x.counts c u (by have := hx.short.1; unfold maxLen; omega) i7 ((i1.below hb (Nat.le_refl _)).more hb.size))
  rw [firstOf_neg hx.1 hr] at RC
  have HP := Lib.hid hp
  have HE := Lib.hid he
  clear hv hp he i1 i2 i3 i7 hr hx
  go_enter Tryz.func45, Tryz.ntmps45
  have pc := HP.out.cell
  have pf := HP.out.frozen
  go_wp2_with fail
  refine (RC.out _ (Below.refl _ _)).mono ?_; rintro e1 w1 ⟨rfl, b1⟩
  have B1 := Lib.hid b1
  clear b1 pc pf RC
  go_wp2_with fail
  refine (demand_no a0 a1 a2 a3 w1 (HE.out.below B1.out)).mono ?_; rintro e1 w2 ⟨rfl, rfl⟩
  go_wp2_with fail
  exact ⟨rfl, rfl, B1.out⟩
set_option maxRecDepth 20000 in
set_option maxHeartbeats 16000000 in
theorem unsc_some (x : VolN) (A B C : Option Addr) (c d e g b p : Nat) (r : Nat) (f : Nat) (w : World) (hx : x.Inv) (hv : VolO w b x (.agg #[.int .i64 x.key, .slice A x.counts.length c, .slice B x.trusts.length d, .slice C x.cells.length e, .slice (some ⟨g, 0, none⟩) 2 2, .int .i64 x.count])) (hp : CellsAt w p 31 #[.int .i64 x.key, .slice A x.counts.length c, .slice B x.trusts.length d, .slice C x.cells.length e, .slice (some ⟨g, 0, none⟩) 2 2, .int .i64 x.count]) (hr : r < x.counts.length) (hf : firstOf x.key x.counts r = f) (k m : Nat) (hk : (x.trusts.getD r default).cursor = k) (hm : x.counts.getD r 0 = (k + m : Nat)) (hm0 : 0 < m) (gC : Nat) (hC : C = some ⟨gC, 0, none⟩) :
    Calls Tryz.prog 45 #[.pointer (some ⟨p, 0, none⟩), .int .i64 r] w fun e1 w' => (∃ mc, e1 = .returned (.slice (some ⟨gC, (f + k) * 2, none⟩) m mc) ∧ m ≤ mc ∧ mc = e - (f + k)) ∧ Below w.heap.size w w' := by
  have hv2 := hv.reads
  obtain ⟨A1, c1, B1, d1, C1, e1, b1, o1, s1, eq, i1, i2, i3, -, -, -, i7⟩ := hv2
  injection eq with eq
  simp only [Array.mk.injEq, List.cons.injEq, Value.slice.injEq, true_and, and_true] at eq
  obtain ⟨⟨rfl, rfl⟩, ⟨rfl, rfl⟩, ⟨rfl, rfl⟩, -⟩ := eq
  have RC := Lib.hid (fun (u : World) (hb : Below w.heap.size w u) => firstOf_calls x.key r A x.counts c u (by have := hx.short.1; unfold maxLen; omega) i7 ((i1.below hb (Nat.le_refl _)).more hb.size))
  rw [hf] at RC
  have hup : (f : Int) = upTo x.counts r := by rw [← hf]; exact firstOf_yes hx.1 hr
  have hu1 := upTo_succ x.counts (show r < x.counts.length by omega)
  have hmono := upTo_mono hx.1.2.2.1 (i := r + 1) (j := x.counts.length) (by omega) (Nat.le_refl _)
  have hfit := hx.fit.2
  have hle : f + (k + m) ≤ x.cells.length := by omega
  have hce : x.cells.length ≤ e := by
    obtain ⟨_, _, _, _, _, _, _, _, _, _, _, _, _, _, _, eq9, -, -, h3, -⟩ := hv
    injection eq9 with eq9
    simp only [Array.mk.injEq, List.cons.injEq, Value.slice.injEq, true_and, and_true] at eq9
    obtain ⟨-, -, ⟨rfl, rfl⟩, -⟩ := eq9
    rcases h3.2 with ⟨h0, _⟩ | ⟨_, _, _, h0, _, _, h5, _⟩
    · simp only [Value.slice.injEq] at h0; omega
    · simp only [Value.slice.injEq] at h0; omega
  have hcn := hx.short.2.2.1
  have hri : r < x.trusts.length := by rw [hx.fit.1]; exact hr
  obtain ⟨bA, oA, rfl, hbA, hcA⟩ := i1 r hr
  obtain ⟨bB, oB, rfl, hbB, hcB⟩ := i2.at_ hri
  have hcB2 := hcB.2.2.1
  rw [hk] at hcB2
  rw [hm] at hcA
  have HP := Lib.hid hp
  have HA := Lib.hid (And.intro hbA hcA)
  have HB := Lib.hid (And.intro hbB hcB2)
  have hge : decide ((0 : Int) ≤ f) = true := decide_eq_true (by omega)
  have hri' : (r : Int) < x.trusts.length := by omega
  have hrc' : (r : Int) < x.counts.length := by omega
  have hr0 : (0 : Int) ≤ r := by omega
  have hw1 : IntKind.i64.wrap ((f : Int) + k) = ((f + k : Nat) : Int) := by rw [IntWalk.i64_in _ (by omega)]; omega
  have hw2 : IntKind.i64.wrap ((f : Int) + (k + m : Nat)) = ((f + (k + m) : Nat) : Int) := by rw [IntWalk.i64_in _ (by omega)]; omega
  have hz1 : ¬ e - (f + k) = 0 := by omega
  have hz2 : ¬ e ≤ f + k := by omega
  have hz3 : f + (k + m) - (f + k) = m := by omega
  clear hv hp i1 i2 i3 i7 hx hbA hcA hbB hcB hcB2 hf hk hm hup hu1 hmono hfit
  go_enter Tryz.func45, Tryz.ntmps45
  have pc := HP.out.cell
  have pf := HP.out.frozen
  go_wp2_with fail
  refine (RC.out _ (Below.refl _ _)).mono ?_; rintro e1 w1 ⟨rfl, b1⟩
  have B1 := Lib.hid b1
  clear b1 pc pf RC
  go_wp2_with fail
  refine (demand_yes w1).mono ?_; rintro e1 w2 ⟨rfl, rfl⟩
  go_upto_region 3 with fail
  have b1 := B1.out
  clear B1
  refine wp_region_class (C := fun u => Below w.heap.size w u) (by kernel_rfl) (by kernel_rfl) b1.drew ?_
  clear b1
  iterate 26 (first
    | go_big_quiet_skip
    | (go_big_quiet_want
       go_big_quiet_op
       first
         | go_big_quiet_on
         | (apply Exists.intro
            refine ⟨fun u hu => ?_, ?_⟩
            · first
                | with_reducible rfl
                | (have pc := (HP.out.below hu HP.out.lt).cell; have ca := (hu.cell (p := ⟨bA, oA + r, none⟩) HA.out.1).trans HA.out.2; have cb := (hu.cell (p := ⟨bB, oB + r * 8 + 2, none⟩) HB.out.1).trans HB.out.2; go_simp; first | done | with_reducible rfl)
            go_big_quiet_on)))
  refine wpQuiet_nil ?_
  intro w8 b8
  have B8 := Lib.hid b8
  clear b8
  go_wp2_with fail
  go_ret
  exact ⟨⟨e - (f + k), by rw [show (f + (k + m) - (f + k)) = m from hz3]; rfl, by omega, rfl⟩, B8.out⟩
theorem VolO.lits {u : World} {b : Nat} {x : VolN} {cs : Array Value} (h : VolO u b x (.agg cs)) : ∃ A c B d C e g, cs = #[.int .i64 x.key, .slice A x.counts.length c, .slice B x.trusts.length d, .slice C x.cells.length e, .slice (some ⟨g, 0, none⟩) 2 2, .int .i64 x.count] := by
  obtain ⟨A, c, B, d, C, e, g, q0, q1, q2, q3, q4, q5, q6, q7, e9, -⟩ := h
  injection e9 with e9
  exact ⟨A, c, B, d, C, e, g, e9⟩
theorem VolQ.lits {u : World} {b : Nat} {o : Option VolN} {cs : Array Value} (h : VolQ u b o (.agg cs)) : ∃ k A n0 c B n1 d C n2 e E n3 f m, cs = #[.int .i64 k, .slice A n0 c, .slice B n1 d, .slice C n2 e, .slice E n3 f, .int .i64 m] := by
  cases o with
  | none =>
    have e : (Value.agg cs) = .agg #[.int .i64 0, .slice none 0 0, .slice none 0 0, .slice none 0 0, .slice none 0 0, .int .i64 0] := h
    injection e with e
    exact ⟨_, _, _, _, _, _, _, _, _, _, _, _, _, _, e⟩
  | some x =>
    obtain ⟨A, c, B, d, C, e, g, e9⟩ := VolO.lits h
    exact ⟨_, _, _, _, _, _, _, _, _, _, _, _, _, _, e9⟩
theorem VolQ.out {u u' : World} {b p : Nat} {o : Option VolN} {v : Value} (h : VolQ u b o v) (hg : u.grownBy u' (some p)) (hp : p < b) : VolQ u' b o v := by
  cases o with
  | none => exact h
  | some x => exact VolO.out h hg hp
theorem VolQ.mono {u : World} {b b' : Nat} {o : Option VolN} {v : Value} (h : VolQ u b o v) (hb : b' ≤ b) : VolQ u b' o v := by
  cases o with
  | none => exact h
  | some x => exact VolO.mono h hb
def One (j : Nat) (K0 K1 : World → Prop) (D : Nat → Bool) (u : World) : Prop := (D j = false → K0 u) ∧ (D j = true → K1 u)
theorem One.all {j : Nat} {K0 K1 R : World → Prop} {D : Nat → Bool} {u : World} (h : One j K0 K1 D u) (f0 : K0 u → R u) (f1 : K1 u → R u) : R u := by
  cases e : D j with
  | false => exact f0 (h.1 e)
  | true => exact f1 (h.2 e)
theorem One.put {j : Nat} {K0 K1 : World → Prop} {D : Nat → Bool} {u : World} (h : K1 u) : One j K0 K1 (setD D j) u := ⟨fun e => by unfold setD at e; simp at e, fun _ => h⟩
theorem stepVol_eq {y : VolN} {r f kk : Nat} (hf : firstOf y.key y.counts r = f) (hc : (y.trusts.getD r default).cursor = kk) :
    stepVol y r = ({ y with trusts := y.trusts.set r (scanned y.key y.counts r (y.trusts.getD r default) (y.cells.getD (f + kk) default).1 (y.cells.getD (f + kk) default).2).1, cells := y.cells.set (f + kk) (scanned y.key y.counts r (y.trusts.getD r default) (y.cells.getD (f + kk) default).1 (y.cells.getD (f + kk) default).2).2.1 },
      (scanned y.key y.counts r (y.trusts.getD r default) (y.cells.getD (f + kk) default).1 (y.cells.getD (f + kk) default).2).2.2) := by
  unfold stepVol
  rw [if_pos (by omega)]
  simp only [Int.toNat_natCast, hf, hc]
  rw [show ((f : Int) + (kk : Int)).toNat = f + kk by omega]
theorem VolO.apart {w : World} {base : Nat} {y : VolN} {n0 bb oo c gT gC : Nat} {T D : Array Value} {k : Int} {v1 v2 v3 v4 : Value} (h : VolO w base y (.agg #[.int .i64 k, .slice (some ⟨bb, oo, none⟩) n0 c, v1, v2, v3, v4])) (hA : CellsAt w gT 80 T) (hD : CellsAt w gC 112 D) : bb ≠ gT ∧ bb ≠ gC := by
  obtain ⟨A, c', B, d, C, e, g, q0, q1, q2, q3, q4, q5, q6, q7, e9, h1, -⟩ := h
  injection e9 with e9
  simp only [Array.mk.injEq, List.cons.injEq, Value.slice.injEq] at e9
  obtain ⟨-, ⟨rfl, -, rfl⟩, -⟩ := e9
  rcases h1.2 with ⟨h0, _⟩ | ⟨g', cap, cur, e1, _, hg, _⟩
  · cases h0
  · simp only [Value.slice.injEq, Option.some.injEq, Addr.mk.injEq, and_true] at e1
    obtain ⟨⟨rfl, -⟩, -⟩ := e1
    exact ⟨fun e => by subst e; unfold CellsAt at hA; rw [hg] at hA; simp at hA, fun e => by subst e; unfold CellsAt at hD; rw [hg] at hD; simp at hD⟩
theorem below_NB {b gT gC o q : Nat} {u wb : World} {T D : Array Value} {t : Tru} {c : Int × Int} (h : Below b u wb) (hT : b ≤ gT) (hC : b ≤ gC) : Below b u (NB wb gT gC T o D q t c) :=
  ⟨h.os, h.tape, h.output, by unfold NB; simpa using h.size, fun k hk => by unfold NB; rw [setRow_other _ _ _ _ (by omega), setRow_other _ _ _ _ (by omega)]; exact h.block k hk⟩
set_option maxRecDepth 20000 in
set_option maxHeartbeats 8000000 in
theorem scanT_calls (a0 a1 a2 a3 : Addr) (x : VolN) (bb oo c d e gT gC g b r f k0 m mc : Nat) (u : World) (hx : x.Inv) (hv : VolO u b x (.agg #[.int .i64 x.key, .slice (some ⟨bb, oo, none⟩) x.counts.length c, .slice (some ⟨gT, 0, none⟩) x.trusts.length d, .slice (some ⟨gC, 0, none⟩) x.cells.length e, .slice (some ⟨g, 0, none⟩) 2 2, .int .i64 x.count])) (hr : r < x.counts.length) (hf : firstOf x.key x.counts r = f) (hk0 : (x.trusts.getD r default).cursor = k0) (hm : ((k0 + m : Nat) : Int) ≤ x.counts.getD r 0) (heb : ∀ u', Below b u u' → Errs u' a0 a1 a2 a3) :
    Calls Tryz.prog 102 #[.pointer (some ⟨gT, r * 8, none⟩), .agg #[.int .i64 x.key, .slice (some ⟨bb, oo, none⟩) x.counts.length c], .int .i64 r, .slice (some ⟨gC, (f + k0) * 2, none⟩) m mc] u fun e1 w' => e1 = .returned (.int .i64 (walkN r m x).2) ∧ VolO w' b (walkN r m x).1 (.agg #[.int .i64 x.key, .slice (some ⟨bb, oo, none⟩) x.counts.length c, .slice (some ⟨gT, 0, none⟩) x.trusts.length d, .slice (some ⟨gC, 0, none⟩) x.cells.length e, .slice (some ⟨g, 0, none⟩) 2 2, .int .i64 x.count]) ∧ Below b u w' := by
  have hup : (f : Int) = upTo x.counts r := by rw [← hf]; exact firstOf_yes hx.1 hr
  have hu1 := upTo_succ x.counts (show r < x.counts.length by omega)
  have hmono := upTo_mono hx.1.2.2.1 (i := r + 1) (j := x.counts.length) (by omega) (Nat.le_refl _)
  have hfit := hx.fit.2
  have hle : f + (k0 + m) ≤ x.cells.length := by omega
  have hcn := hx.short.2.2.1
  have hbu : b ≤ u.heap.size := by
    obtain ⟨_, _, _, _, _, _, _, _, _, _, _, _, _, _, _, _, _, _, _, h4, h5, -⟩ := hv
    exact Nat.le_trans h4 (Nat.le_of_lt h5.lt)
  refine (scanP_calls x.key bb oo x.counts.length c r gT (r * 8) gC ((f + k0) * 2) m mc
    (fun code wb => ∃ y, VolO wb b y (.agg #[.int .i64 x.key, .slice (some ⟨bb, oo, none⟩) x.counts.length c, .slice (some ⟨gT, 0, none⟩) x.trusts.length d, .slice (some ⟨gC, 0, none⟩) x.cells.length e, .slice (some ⟨g, 0, none⟩) 2 2, .int .i64 x.count]) ∧ Below b u wb ∧ walkN r m x = (y, code))
    (fun k wb => ∃ y : VolN, y.Inv ∧ (y.key = x.key ∧ y.counts = x.counts ∧ y.count = x.count ∧ y.trusts.length = x.trusts.length ∧ y.cells.length = x.cells.length) ∧ (y.trusts.getD r default).cursor = (k0 + k : Nat) ∧ VolO wb b y (.agg #[.int .i64 x.key, .slice (some ⟨bb, oo, none⟩) x.counts.length c, .slice (some ⟨gT, 0, none⟩) x.trusts.length d, .slice (some ⟨gC, 0, none⟩) x.cells.length e, .slice (some ⟨g, 0, none⟩) 2 2, .int .i64 x.count]) ∧ Below b u wb ∧ walkN r (m - k) y = walkN r m x)
    u hx.short.1 hr (by omega) ?_ ?_ ⟨x, hx, ⟨rfl, rfl, rfl, rfl, rfl⟩, hk0, hv, Below.refl _ _, rfl⟩).mono ?_
  · rintro k wb ⟨y, hy, ⟨e1, e2, e3, e4, e5⟩, hc, hvy, hb, hwk⟩ hk hsz
    have hj : f + (k0 + k) < y.cells.length := by omega
    have hri : r < y.trusts.length := by rw [e4, hx.fit.1]; exact hr
    have hvy2 := hvy
    rw [← e1, ← e3] at hvy2
    obtain ⟨gT', gC', T, D, g1, g2, hbT, hbC, hne, hT, hA, hD, d0, d1, hfin⟩ := hvy2.turn2 (i := r) (j := f + (k0 + k)) hri hj
    injection g1 with g1; injection g1 with g1; subst g1
    injection g2 with g2; injection g2 with g2; subst g2
    obtain ⟨z1, z2⟩ := hvy.apart hA hD
    have hrd := hvy.reads
    obtain ⟨A1, c1, B1, d1', C1, e1', b1, o1, s1, eq, i1, i2, i3, -, -, -, i7⟩ := hrd
    injection eq with eq
    simp only [Array.mk.injEq, List.cons.injEq, Value.slice.injEq, true_and, and_true] at eq
    obtain ⟨-, ⟨rfl, hl1, rfl⟩, -⟩ := eq
    have hfy : firstOf y.key y.counts r = f := by rw [e1, e2]; exact hf
    have hst := stepVol_eq hfy hc
    have htr : trustOk y.key y.counts r (y.trusts.getD r default) := hy.2.1.2.2 r hri
    have hce : isCell (y.cells.getD (f + (k0 + k)) default).1 (y.cells.getD (f + (k0 + k)) default).2 := hy.2.2.1.1 _ hj
    have hq : (f + k0) * 2 + k * 2 = (f + (k0 + k)) * 2 := by omega
    have hfin2 : ∀ (t' : Tru) (c' : Int × Int), VolO (NB wb gT gC T (r * 8) D ((f + k0) * 2 + k * 2) t' c') b { y with trusts := y.trusts.set r t', cells := y.cells.set (f + (k0 + k)) c' } (.agg #[.int .i64 x.key, .slice (some ⟨bb, oo, none⟩) x.counts.length c, .slice (some ⟨gT, 0, none⟩) x.trusts.length d, .slice (some ⟨gC, 0, none⟩) x.cells.length e, .slice (some ⟨g, 0, none⟩) 2 2, .int .i64 x.count]) := fun t' c' => by
      have h9 := hfin t' c'
      unfold NB
      rw [hq]
      have e9 : (Value.agg #[.int .i64 y.key, .slice (some ⟨bb, oo, none⟩) x.counts.length c, .slice (some ⟨gT, 0, none⟩) x.trusts.length d, .slice (some ⟨gC, 0, none⟩) x.cells.length e, .slice (some ⟨g, 0, none⟩) 2 2, .int .i64 y.count]) = Value.agg #[.int .i64 x.key, .slice (some ⟨bb, oo, none⟩) x.counts.length c, .slice (some ⟨gT, 0, none⟩) x.trusts.length d, .slice (some ⟨gC, 0, none⟩) x.cells.length e, .slice (some ⟨g, 0, none⟩) 2 2, .int .i64 x.count] := by rw [e1, e3]
      rw [← e9]; exact h9
    have hinv := stepVol_inv hy r
    have hlen := stepVol_len y r
    have hzero := fun h => stepVol_zero (r := r) hy.fit h
    obtain ⟨n, hn⟩ : ∃ n, m - k = n + 1 := ⟨m - k - 1, by omega⟩
    rw [hn] at hwk
    rw [walkN] at hwk
    have hW := scanWay_of a0 a1 a2 a3 y.key y.counts bb oo c r (y.trusts.getD r default) (y.cells.getD (f + (k0 + k)) default) wb gT (r * 8) gC ((f + k0) * 2) k T D
      (fun code wb => ∃ y, VolO wb b y (.agg #[.int .i64 x.key, .slice (some ⟨bb, oo, none⟩) x.counts.length c, .slice (some ⟨gT, 0, none⟩) x.trusts.length d, .slice (some ⟨gC, 0, none⟩) x.cells.length e, .slice (some ⟨g, 0, none⟩) 2 2, .int .i64 x.count]) ∧ Below b u wb ∧ walkN r m x = (y, code))
      (fun wb => ∃ y : VolN, y.Inv ∧ (y.key = x.key ∧ y.counts = x.counts ∧ y.count = x.count ∧ y.trusts.length = x.trusts.length ∧ y.cells.length = x.cells.length) ∧ (y.trusts.getD r default).cursor = (k0 + (k + 1) : Nat) ∧ VolO wb b y (.agg #[.int .i64 x.key, .slice (some ⟨bb, oo, none⟩) x.counts.length c, .slice (some ⟨gT, 0, none⟩) x.trusts.length d, .slice (some ⟨gC, 0, none⟩) x.cells.length e, .slice (some ⟨g, 0, none⟩) 2 2, .int .i64 x.count]) ∧ Below b u wb ∧ walkN r (m - (k + 1)) y = walkN r m x)
      hT hA hD (by rw [hq]; exact d0) (by rw [hq]; exact d1) ⟨htr, hce⟩ hy.short.1 i7 i1 (heb wb hb) (fun t' c' => heb _ (below_NB hb hbT hbC)) z1 z2 ?_ ?_
    · rw [e1, e2] at hW; exact hW
    · intro hz
      rw [hst] at hwk
      rw [if_neg hz] at hwk
      refine ⟨_, ?_, below_NB hb hbT hbC, hwk.symm⟩
      exact hfin2 _ _
    · intro hz
      have hz2 : (stepVol y r).2 = 0 := by rw [hst]; exact hz
      rw [if_pos hz2] at hwk
      obtain ⟨l1, l2, l3, l4, -, -, l7⟩ := hlen
      refine ⟨(stepVol y r).1, hinv, ⟨l1.trans e1, l2.trans e2, l7.trans e3, l3.trans e4, l4.trans e5⟩, ?_, ?_, below_NB hb hbT hbC, by rw [show m - (k + 1) = n by omega]; exact hwk⟩
      · have := (hzero hz2).2
        rw [Int.toNat_natCast] at this
        rw [this, hc]; omega
      · rw [hst]
        exact hfin2 _ _
  · rintro wb ⟨y, hy, -, -, hvy, hb, hwk⟩
    rw [Nat.sub_self, walkN] at hwk
    exact ⟨y, hvy, hb, hwk.symm⟩
  · rintro e1 w' ⟨code, wb, rfl, hsz, hk, y, hvy, hb, hwk⟩
    rw [hwk]
    exact ⟨rfl, hvy.below hk.1, hb.trans (hk.1.mono (by omega))⟩
theorem One.skip {j k : Nat} {K0 K1 : World → Prop} {D : Nat → Bool} {u : World} (h : One j K0 K1 D u) (hk : k ≠ j) : One j K0 K1 (setD D k) u := by
  have e : setD D k j = D j := by unfold setD; simp [Ne.symm hk]
  unfold One
  rw [e]; exact h
def KW (b : Nat) (u0 : World) (y : VolN) (v : Value) (u : World) : Prop := VolO u b y v ∧ Below b u0 u
set_option maxRecDepth 20000 in
set_option maxHeartbeats 8000000 in
theorem volScan_calls (a0 a1 a2 a3 : Addr) (x : VolN) (A B : Option Addr) (gC c d e g b p r f k0 m mc : Nat) (w u : World) (hx : x.Inv) (hv : VolO u b x (.agg #[.int .i64 x.key, .slice A x.counts.length c, .slice B x.trusts.length d, .slice (some ⟨gC, 0, none⟩) x.cells.length e, .slice (some ⟨g, 0, none⟩) 2 2, .int .i64 x.count])) (hp : CellsAt u p 31 #[.int .i64 x.key, .slice A x.counts.length c, .slice B x.trusts.length d, .slice (some ⟨gC, 0, none⟩) x.cells.length e, .slice (some ⟨g, 0, none⟩) 2 2, .int .i64 x.count]) (hpb : p < b) (hr : r < x.counts.length) (hf : firstOf x.key x.counts r = f) (hk0 : (x.trusts.getD r default).cursor = k0) (hm : ((k0 + m : Nat) : Int) ≤ x.counts.getD r 0) (heb : ∀ u', Below b u u' → Errs u' a0 a1 a2 a3) :
    Calls Tryz.prog 44 #[.pointer (some ⟨p, 0, none⟩), .int .i64 r, .slice (some ⟨gC, (f + k0) * 2, none⟩) m mc] u fun e1 w' => e1 = .returned (.int .i64 (walkN r m x).2) ∧ VolO w' b (walkN r m x).1 (.agg #[.int .i64 x.key, .slice A x.counts.length c, .slice B x.trusts.length d, .slice (some ⟨gC, 0, none⟩) x.cells.length e, .slice (some ⟨g, 0, none⟩) 2 2, .int .i64 x.count]) ∧ Below b u w' := by
  have hri : r < x.trusts.length := by rw [hx.fit.1]; exact hr
  obtain ⟨gT, rfl, -, -, -, -⟩ := hv.trustsGet (by omega)
  have hrd := hv.reads
  obtain ⟨A1, c1, B1, d1', C1, e1', b1, o1, s1, eq, i1, -⟩ := hrd
  injection eq with eq
  simp only [Array.mk.injEq, List.cons.injEq, Value.slice.injEq, true_and, and_true] at eq
  obtain ⟨⟨rfl, rfl⟩, -⟩ := eq
  obtain ⟨bb, oo, rfl, -, -⟩ := i1 r hr
  have TC := Lib.hid (fun (u' : World) (hb : Below u.heap.size u u') => scanT_calls a0 a1 a2 a3 x bb oo c d e gT gC g b r f k0 m mc u' hx (hv.below hb) hr hf hk0 hm (fun u9 h9 => heb u9 (Below.trans (hb.mono (by obtain ⟨_, _, _, _, _, _, _, _, _, _, _, _, _, _, _, _, _, _, _, h4, h5, -⟩ := hv; exact Nat.le_trans h4 (Nat.le_of_lt h5.lt))) h9)))
  have hbu : b ≤ u.heap.size := (by obtain ⟨_, _, _, _, _, _, _, _, _, _, _, _, _, _, _, _, _, _, _, h4, h5, -⟩ := hv; exact Nat.le_trans h4 (Nat.le_of_lt h5.lt))
  have HP := Lib.hid hp
  have HPB := Lib.hid (And.intro hpb hbu)
  have hrl : (r : Int) < x.trusts.length := by omega
  have hr0 : (0 : Int) ≤ r := by omega
  have hsl : (x.trusts.length : Int) ≤ 1048576 := by have := hx.short.2.1; omega
  generalize walkN r m x = R at TC ⊢
  obtain ⟨y, q⟩ := R
  clear hv hp hpb hx hf hk0 hm heb i1 hbu
  go_enter Tryz.func44, Tryz.ntmps44
  have pc := HP.out.cell
  have pf := HP.out.frozen
  go_upto_region 1 with fail
  clear pc pf
  refine wp_region_free [false, true, false, false, false, false, false, true, false, false, false, false, true, false] (ShV [(1, (.pointer (some ⟨p, 0, none⟩))), (7, (.pointer (some ⟨p, 0, none⟩))), (12, .int .i64 q)]) (fun D _ v => One 12 (Below u.heap.size u) (KW b u y (.agg #[.int .i64 x.key, .slice (some ⟨bb, oo, none⟩) x.counts.length c, .slice (some ⟨gT, 0, none⟩) x.trusts.length d, .slice (some ⟨gC, 0, none⟩) x.cells.length e, .slice (some ⟨g, 0, none⟩) 2 2, .int .i64 x.count])) D v) (by kernel_rfl) (by kernel_rfl) (fun γ => by kernel_rfl) (fun D γ γ' w _ h => h) (ShV.inh _) (fun γ => ⟨fun _ => (Below.refl _ _).drew, fun e => (by cases e)⟩) (fun γ hγ => ?_)
  have g1 : γ 1 = (.pointer (some ⟨p, 0, none⟩)) := hγ 1 rfl
  have g7 : γ 7 = (.pointer (some ⟨p, 0, none⟩)) := hγ 7 rfl
  have g12 : γ 12 = .int .i64 q := hγ 12 rfl
  have RB : ∀ {D : Nat → Bool} {v : World}, One 12 (Below u.heap.size u) (KW b u y (.agg #[.int .i64 x.key, .slice (some ⟨bb, oo, none⟩) x.counts.length c, .slice (some ⟨gT, 0, none⟩) x.trusts.length d, .slice (some ⟨gC, 0, none⟩) x.cells.length e, .slice (some ⟨g, 0, none⟩) 2 2, .int .i64 x.count])) D v → CellsAt v p 31 #[.int .i64 x.key, .slice (some ⟨bb, oo, none⟩) x.counts.length c, .slice (some ⟨gT, 0, none⟩) x.trusts.length d, .slice (some ⟨gC, 0, none⟩) x.cells.length e, .slice (some ⟨g, 0, none⟩) 2 2, .int .i64 x.count] := fun h => One.all (R := fun v => CellsAt v p 31 #[.int .i64 x.key, .slice (some ⟨bb, oo, none⟩) x.counts.length c, .slice (some ⟨gT, 0, none⟩) x.trusts.length d, .slice (some ⟨gC, 0, none⟩) x.cells.length e, .slice (some ⟨g, 0, none⟩) 2 2, .int .i64 x.count]) h (fun k => HP.out.below k HP.out.lt) (fun k => HP.out.below k.2 HPB.out.1)
  apply Exists.intro
  refine ⟨fun D => ?_, ?_, ?_⟩
  · simp only [hushL, cond_true, cond_false, Nat.reduceAdd, g1, g7, g12]
    iterate 14 (first
      | go_big_quiet_skip
      | (go_big_quiet_want
         go_big_quiet_op
         first
           | go_big_quiet_on
           | (apply Exists.intro
              refine ⟨fun u hu => ?_, ?_⟩
              · first
                  | with_reducible rfl
                  | (obtain ⟨kc0, kf0, -⟩ := (Rd.of (L := [(p, 31, #[.int .i64 x.key, .slice (some ⟨bb, oo, none⟩) x.counts.length c, .slice (some ⟨gT, 0, none⟩) x.trusts.length d, .slice (some ⟨gC, 0, none⟩) x.cells.length e, .slice (some ⟨g, 0, none⟩) 2 2, .int .i64 x.count])]) (fun y hy => by simp only [List.mem_cons, List.not_mem_nil, or_false] at hy; subst hy; exact RB hu)); go_simp; first | done | with_reducible rfl)
              go_big_quiet_on)))
    exact wpQuiet_nil rfl
  · simp only [freeOk, Nat.reduceAdd]
    refine ⟨fun D v hD hd hu => ?_, fun D v hD hd hu => ?_, fun D v hD hd hu => ?_, trivial⟩
    · exact steps_nilD rfl rfl ⟨rfl, hu.skip (by decide)⟩
    · exact steps_nilD rfl rfl ⟨rfl, hu.skip (by decide)⟩
    · exact steps_call ((TC.out v (hu.1 hD)).mono fun e w' ⟨he, hv, hb⟩ => ⟨_, he, rfl, One.put ⟨hv, (hu.1 hD).mono HPB.out.2 |>.trans hb⟩⟩) rfl rfl rfl rfl (by kernel_rfl)
  intro D w7 hD hu
  have k7 := Lib.hid (hu.2 (hD 12 (by simp) rfl))
  clear hu hD g1 g7 g12 hγ TC RB
  go_wp2_with fail
  go_ret
  exact ⟨rfl, k7.out.1, k7.out.2⟩
end Go.Proofs.YtgaecedhkbneaaaGreatDoor.Mx

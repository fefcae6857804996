import Derived.Test.YteoijmejhdocdaaGreatDoorG14
import Derived.Deep.MidRow
import Derived.Test.YteoijmejhdocdaaGreatDoorG08
import Derived.Test.YteoijmejhdocdaaGreatDoorG03
import Derived.Test.YteoijmejhdocdaaGreatDoorG05
import Derived.Test.YteoijmejhdocdaaGreatDoorG13
import Derived.Deep.AppendLies
import Derived.Deep.RegionHeld3
namespace Go.Proofs.YteoijmejhdocdaaGreatDoor.Mx
open Go.ChangeShapes Go.WideShapes Go.ChangeAt Go.RowKit
set_option linter.unusedVariables false
def failT (t : Tru) : Tru := { t with failed := true }
noncomputable def fallVol (x : VolN) : VolN × Int :=
  if chosenOf x.key x.counts [x.s0, x.s1] x.count < 0 then ({ x with trusts := x.trusts.map failT }, 6)
  else if chosenOf x.key x.counts [x.s0, x.s1] x.count = 0 then ({ x with cells := x.s0.cells, trusts := x.s0.trusts }, 0) else ({ x with cells := x.s1.cells, trusts := x.s1.trusts }, 0)
theorem chosenOf_two (key : Int) (l : List Int) (a b : SlN) (n : Int) : chosenOf key l [a, b] n = -1 ∨ chosenOf key l [a, b] n = 0 ∨ chosenOf key l [a, b] n = 1 := by
  unfold chosenOf
  split
  · rename_i h
    simp only [List.length_cons, List.length_nil] at h
    omega
  · exact .inl rfl
def failTo (L : List Tru) (k : Nat) : List Tru := (L.take k).map failT ++ L.drop k
theorem failTo_zero (L : List Tru) : failTo L 0 = L := by simp [failTo]
theorem failTo_all (L : List Tru) : failTo L L.length = L.map failT := by simp [failTo]
theorem failTo_len (L : List Tru) (k : Nat) : (failTo L k).length = L.length := by simp [failTo]; omega
theorem failTo_succ (L : List Tru) (k : Nat) (h : k < L.length) : (failTo L k).set k (failT ((failTo L k).getD k default)) = failTo L (k + 1) := by
  have hl : ((L.take k).map failT).length = k := by simp; omega
  have hd : L.drop k = L[k] :: L.drop (k + 1) := List.drop_eq_getElem_cons h
  unfold failTo
  have e0 : ((L.take k).map failT ++ L.drop k).getD k default = L[k] := by
    rw [List.getD_eq_getElem?_getD, List.getElem?_append_right (by omega), hl, Nat.sub_self, hd, List.getElem?_cons_zero, Option.getD_some]
  rw [e0, List.set_append_right _ _ (by omega), hl, Nat.sub_self, hd, List.set_cons_zero, List.take_succ_eq_append_getElem h, List.map_append, List.append_assoc]
  rfl
theorem TrRow.fail {w : World} {base c g : Nat} {L : List Tru} {k : Nat} (h : TrRow w base (.slice (some ⟨g, 0, none⟩) L.length c) L) (hk : k < L.length) :
    TrRow (w.setCell ⟨g, k * 8 + 7, none⟩ (.bool true)) base (.slice (some ⟨g, 0, none⟩) L.length c) (L.set k (failT (L.getD k default))) := by
  have hb : (k + 1) * 8 ≤ L.length * 8 := Nat.mul_le_mul_right 8 hk
  have h8 := row_setCell h (i := k * 8 + 7) (by omega) (.bool true)
  unfold TrRow SRow
  rw [List.length_set]
  have e : flatS truV (L.set k (failT (L.getD k default))) = (flatS truV L).set (k * 8 + 7) (.bool true) := by
    apply List.ext_getElem?
    intro i
    have hlen : (flatS truV L).length = L.length * 8 := flatS_length truV_len
    rcases Nat.lt_or_ge i (L.length * 8) with hi | hi
    · rw [flatS_set truV_len L k _ hk i hi]
      simp only [List.getElem?_set, hlen]
      by_cases hin : k * 8 ≤ i ∧ i < (k + 1) * 8
      · rw [if_pos hin]
        obtain ⟨j, rfl⟩ : ∃ j, i = k * 8 + j := ⟨i - k * 8, by omega⟩
        have hj : j < 8 := by omega
        rw [show k * 8 + j - k * 8 = j by omega]
        have hold := flatS_get truV_len (L := L) k j hk hj
        rw [hold]
        by_cases h7 : j = 7
        · subst h7
          rw [if_pos rfl, if_pos (by omega)]
          rfl
        · rw [if_neg (by omega)]
          have : j = 0 ∨ j = 1 ∨ j = 2 ∨ j = 3 ∨ j = 4 ∨ j = 5 ∨ j = 6 := by omega
          rcases this with rfl | rfl | rfl | rfl | rfl | rfl | rfl <;> rfl
      · rw [if_neg hin, if_neg (by omega)]
    · rw [List.getElem?_eq_none (by rw [flatS_length truV_len, List.length_set]; exact hi), List.getElem?_eq_none (by rw [List.length_set, hlen]; exact hi)]
  rw [e]
  exact h8
theorem VolO.newBoth {u : World} {base : Nat} {x : VolN} {A B C : Option Addr} {c d e b o sc n0 n1 n2 : Nat} {v : World} {B' C' : Option Addr} {d' e' N N' : Nat} {M : List Ce} {T : List Tru} (h : VolO u base x (.agg #[.int .i64 x.key, .slice A n0 c, .slice B n1 d, .slice C n2 e, .slice (some ⟨b, o, none⟩) 2 sc, .int .i64 x.count])) (hb : Below u.heap.size u v) (hC : ClRow v N (.slice C' M.length e') M) (hT : TrRow v N' (.slice B' T.length d') T) (hN : u.heap.size ≤ N) (hN' : u.heap.size ≤ N')
    (hs : Sep (blkOf (.slice C' M.length e')) (blkOf (.slice B' T.length d'))) (hB : base ≤ u.heap.size) : VolO v base { x with cells := M, trusts := T } (.agg #[.int .i64 x.key, .slice A n0 c, .slice B' T.length d', .slice C' M.length e', .slice (some ⟨b, o, none⟩) 2 sc, .int .i64 x.count]) := by
  obtain ⟨A2, c2, B2, d2, C2, e2, g, A0, c0, C0, d0, A1, c1, C1, d1, hv, h1, h2, h3, h4, h5, h6, h7, h8, h9, h10, hlt⟩ := h.parts
  have k := fun {vv : Value} {t size n : Nat} {xs : List Value} (hr : u.ownsRow base t size vv n xs) => row_stable hr (u' := v) fun y hy => hb.block y (row_at hr y hy).2
  refine ⟨A2, c2, B', d', C', e', g, A0, c0, C0, d0, A1, c1, C1, d1, ?_, k h1, row_mono hT (Nat.le_trans hB hN'), row_mono hC (Nat.le_trans hB hN), h4, h5.below hb h5.lt, k h6, k h7, k h8, k h9, ?_⟩
  · simp only [Value.agg.injEq, Array.mk.injEq, List.cons.injEq] at hv
    obtain ⟨a1, a2, a3, a4, a5, a6, -⟩ := hv
    rw [a2, a5]
  · refine pw_set (pw_set h10 2 _ (fun l hl => sep_new (hlt l hl) (fun y hy => Nat.le_trans hN (row_at hC y hy).1))) 1 _ (fun l hl => ?_)
    rcases mem_set_ hl with hl | rfl
    · exact sep_new (hlt l hl) (fun y hy => Nat.le_trans hN' (row_at hT y hy).1)
    · exact hs
set_option maxRecDepth 20000 in
set_option maxHeartbeats 8000000 in
theorem l13Fall_calls (x : VolN) (v : Value) (w : World) (hx : x.Short) (hf0 : x.s0.Fits) (hf1 : x.s1.Fits) (ht : 0 < x.trusts.length) (hv : VolR w w.heap.size x v) :
    Calls Tryz.prog 93 #[v] w (VolAns1 w (fallVol x)) := by
  have CO := Lib.hid (fun (u : World) (hb : Below w.heap.size w u) => l12Copy_r x v u hx (hv.grow hb))
  obtain ⟨A, cap, B, tc, C, cc, b, off, sc, rfl, hA, -, -, hbb, h0, h1, -⟩ := hv
  have hsl : Slots w w.heap.size (some ⟨b, off, none⟩) [x.s0, x.s1] := by
    intro i hi
    match i, hi with
    | 0, _ => exact ⟨b, off, rfl, hbb, by simpa using h0⟩
    | 1, _ => exact ⟨b, off, rfl, hbb, by simpa using h1⟩
  have CH := Lib.hid (show ∀ (u : World), Below w.heap.size w u → Calls Tryz.prog 166 #[.agg (pA x.key A x.counts.length cap), .slice (some ⟨b, off, none⟩) 2 sc, .int .i64 x.count] u fun e w' => e = .returned (.int .i64 (chosenOf x.key x.counts [x.s0, x.s1] x.count)) ∧ Below u.heap.size u w' from
    fun u hb => specChosen_calls x.key A (some ⟨b, off, none⟩) x.counts cap [x.s0, x.s1] sc x.count u (by have := hx.1; unfold maxLen; omega) ((hA.below hb (Nat.le_refl _)).more hb.size) (by simp) (hsl.grow hb) (by
      intro i hi
      match i, hi with
      | 0, _ => exact hf0
      | 1, _ => exact hf1))
  have H0 := Lib.hid h0
  have H1 := Lib.hid h1
  have hx5 := hx.2.2.2.1
  have hx6 := hx.2.2.2.2.1
  have hx7 := hx.2.2.2.2.2.1
  have hx8 := hx.2.2.2.2.2.2
  have hx2 := hx.2.1
  have K0 := Lib.hid (show Kept w [(w.heap.size + 1, 31, zV), (w.heap.size, 31, (vX x A cap B tc C cc b off sc))] _ from (((Kept.refl w).put1 _ _ (vX x A cap B tc C cc b off sc) rfl).put1 _ _ zV (by simp)))
  have hch := chosenOf_two x.key x.counts x.s0 x.s1 x.count
  unfold fallVol
  generalize chosenOf x.key x.counts [x.s0, x.s1] x.count = ci at CH hch ⊢
  clear hsl hA h0 h1 hf0 hf1 hx
  rcases hch with rfl | rfl | rfl
  · rw [if_pos (by decide)]
    go_enter Tryz.func93, Tryz.ntmps93
    go_wp2_with fail
    refine (CO.out _ K0.out.1).mono ?_; rintro e u1 ⟨vv, rfl, hv, hb1⟩
    have hk1 := K0.out.below hb1
    obtain ⟨A', c', B', d', C', e', b', o', s', rfl, -⟩ := hv.reads
    have hv1 := hv.mono (show w.heap.size + 1 + 1 ≤ _ by simp)
    have hbl := hv.slotsGet.2.2.2.1
    have lo0 : w.heap.size + 1 < u1.heap.size := hk1.lt (x := (w.heap.size + 1, 31, zV)) (by simp)
    have lo1 : w.heap.size < u1.heap.size := hk1.lt (x := (w.heap.size, 31, (vX x A cap B tc C cc b off sc))) (by simp)
    have hk2 := hk1.put1 u1.heap.size 31 (vX x A' c' B' d' C' e' b' o' s') rfl
    have hv2 := hv1.below ((Below.refl _ _).alloc (Nat.le_refl _) (.cells (vX x A' c' B' d' C' e' b' o' s') 31))
    have BU0 := Lib.hid ((Below.refl u1.heap.size u1).alloc (Nat.le_refl _) (.cells (vX x A' c' B' d' C' e' b' o' s') 31))
    have HU := Lib.hid hv1
    clear hb1 hk1 hv hv1 CO
    go_upto_region 2 with fail
    have bu := BU0.out
    clear BU0
    generalize World.alloc u1 _ = u2 at hk2 hv2 bu ⊢
    have BU := Lib.hid bu
    clear bu
    obtain ⟨kc0, kf0, kc1, kf1, kc2, kf2, -⟩ := hk2.rd
    have HV := Lib.hid hv2
    clear hv2
    have KK := Lib.hid hk2
    go_wp2_with fail
    refine (CH.out _ KK.out.1).mono ?_; rintro e u3 ⟨rfl, b3⟩
    have hk3 := KK.out.below b3
    have hv3 := HV.out.below b3
    have bu3 := BU.out.trans (b3.mono (Nat.le_trans BU.out.size (Nat.le_refl _)))
    have lu3 : u1.heap.size < u3.heap.size := hk3.lt (x := (u1.heap.size, 31, (vX x A' c' B' d' C' e' b' o' s'))) (by simp)
    clear b3 KK HV BU CH hk2 kc0 kf0 kc1 kf1 kc2 kf2
    obtain ⟨kc0, kf0, kc1, kf1, kc2, kf2, -⟩ := hk3.rd
    obtain ⟨gt, rfl, hg0, hgu, -⟩ := HU.out.trustsGet ht
    have KK := Lib.hid hk3
    have HV := Lib.hid hv3
    clear hk3 hv3 bu3 HU
    clear kc0 kf0 kc1 kf1 kc2 kf2
    obtain ⟨kc0, kf0, kc1, kf1, kc2, kf2, -⟩ := KK.out.rd
    skip
    go_wp2_with fail
    go_loopw [6] (fun i u => ∃ k : Nat, k ≤ x.trusts.length ∧ i = .int .i64 k ∧ Kept w [(u1.heap.size, 31, (vX x A' c' (some ⟨gt, 0, none⟩) d' C' e' b' o' s')), (w.heap.size + 1, 31, zV), (w.heap.size, 31, (vX x A cap B tc C cc b off sc))] u ∧ VolO u (w.heap.size + 1 + 1) { x with trusts := failTo x.trusts k } (.agg (vX x A' c' (some ⟨gt, 0, none⟩) d' C' e' b' o' s'))) (fun i _ => x.trusts.length - (intOf i).toNat)
    case atStart => exact ⟨0, by omega, rfl, KK.out, by rw [failTo_zero]; exact HV.out⟩
    case round =>
      obtain ⟨k, hk, rfl, hkp, hvp⟩ := hrel
      clear kc0 kf0 kc1 kf1 kc2 kf2
      clear KK HV
      obtain ⟨kc0, kf0, kc1, kf1, kc2, kf2, -⟩ := hkp.rd
      by_cases hlt : k < x.trusts.length
      · obtain ⟨g1, e1, -, -, hrow, hset⟩ := hvp.trustsGet (by rw [failTo_len]; exact ht)
        injection e1 with e1; injection e1 with e1; subst e1
        have hl := failTo_len x.trusts k
        have hlt2 : k < (failTo x.trusts k).length := by omega
        have hfz := row_frozen hrow
        obtain ⟨p0, p1, p2, p3, p4, p5, p6, p7⟩ := hrow.here hlt2
        have hlt' : (k : Int) < x.trusts.length := by omega
        have hk0' : (0 : Int) ≤ k := by omega
        have hr5 := hrow.fail hlt2
        have hg5 := gb_set (gb_refl wr (some gt)) (k * 8 + 7) (.bool true)
        have hv5 := hset (wr.setCell ⟨gt, k * 8 + 7, none⟩ (.bool true)) ((failTo x.trusts k).set k (failT ((failTo x.trusts k).getD k default))) (by simp) hg5 (by rw [List.length_set]; exact hr5)
        have hk5 := hkp.grown hg5 (by omega) (by intro y hy; simp at hy; rcases hy with rfl | rfl | rfl <;> simp <;> omega)
        have HV5 := Lib.hid hv5
        have HK5 := Lib.hid hk5
        have HL := Lib.hid hl
        clear hv5 hk5 hr5 hg5 hset hrow hvp hkp p0 p1 p2 p3 p4 p5 p6 hl hlt2
        go_wp2_with fail
        go_roundw
        case rel => exact ⟨k + 1, by omega, by go_num, HK5.out, by rw [← failTo_succ x.trusts k hlt]; exact HV5.out⟩
        case measure => simp [intOf]; omega
      · obtain rfl : k = x.trusts.length := by omega
        rw [failTo_all] at hvp
        have HV := Lib.hid hvp
        have KK := Lib.hid hkp
        clear hvp hkp
        go_wp2_with fail
        obtain ⟨w9, e9, ⟨d0, d1, d2, d3, d4, d5⟩, hb9, hg9⟩ := vol_end (w := w) (x0 := .int .i64 x.key) (x1 := .slice A' x.counts.length c') (x2 := .slice (some ⟨gt, 0, none⟩) x.trusts.length d') (x3 := .slice C' x.cells.length e') (x4 := .slice (some ⟨b', o', none⟩) 2 s') (x5 := .int .i64 x.count) (KK.out.at_ (p := w.heap.size + 1) (t := 31) (cs := zV) (by simp)) KK.out.1 (by omega)
        rw [e9]
        exact bodyPost_ret (v := .tuple #[.agg (vX x A' c' (some ⟨gt, 0, none⟩) d' C' e' b' o' s'), .int .i64 6]) (by simp [results, Tryz.results93, go_sem, d0, d1, d2, d3, d4, d5]) rfl ⟨_, rfl, (HV.out.out hg9 (by omega)).mono (by omega), hb9⟩
  · rw [if_neg (by decide), if_pos rfl]
    go_enter Tryz.func93, Tryz.ntmps93
    go_wp2_with fail
    refine (CO.out _ K0.out.1).mono ?_; rintro e u1 ⟨vv, rfl, hv, hb1⟩
    have hk1 := K0.out.below hb1
    obtain ⟨A', c', B', d', C', e', b', o', s', rfl, -⟩ := hv.reads
    have hv1 := hv.mono (show w.heap.size + 1 + 1 ≤ _ by simp)
    have hbl := hv.slotsGet.2.2.2.1
    have lo0 : w.heap.size + 1 < u1.heap.size := hk1.lt (x := (w.heap.size + 1, 31, zV)) (by simp)
    have lo1 : w.heap.size < u1.heap.size := hk1.lt (x := (w.heap.size, 31, (vX x A cap B tc C cc b off sc))) (by simp)
    have hk2 := hk1.put1 u1.heap.size 31 (vX x A' c' B' d' C' e' b' o' s') rfl
    have hv2 := hv1.below ((Below.refl _ _).alloc (Nat.le_refl _) (.cells (vX x A' c' B' d' C' e' b' o' s') 31))
    have BU0 := Lib.hid ((Below.refl u1.heap.size u1).alloc (Nat.le_refl _) (.cells (vX x A' c' B' d' C' e' b' o' s') 31))
    have HU := Lib.hid hv1
    clear hb1 hk1 hv hv1 CO
    go_upto_region 2 with fail
    have bu := BU0.out
    clear BU0
    generalize World.alloc u1 _ = u2 at hk2 hv2 bu ⊢
    have BU := Lib.hid bu
    clear bu
    obtain ⟨kc0, kf0, kc1, kf1, kc2, kf2, -⟩ := hk2.rd
    have HV := Lib.hid hv2
    clear hv2
    have KK := Lib.hid hk2
    go_wp2_with fail
    refine (CH.out _ KK.out.1).mono ?_; rintro e u3 ⟨rfl, b3⟩
    have hk3 := KK.out.below b3
    have hv3 := HV.out.below b3
    have bu3 := BU.out.trans (b3.mono (Nat.le_trans BU.out.size (Nat.le_refl _)))
    have lu3 : u1.heap.size < u3.heap.size := hk3.lt (x := (u1.heap.size, 31, (vX x A' c' B' d' C' e' b' o' s'))) (by simp)
    clear b3 KK HV BU CH hk2 kc0 kf0 kc1 kf1 kc2 kf2
    obtain ⟨kc0, kf0, kc1, kf1, kc2, kf2, -⟩ := hk3.rd
    obtain ⟨Bs, ts, Ds, ds, y0, y1, y2, y3, hrw⟩ := H0.out
    have QQ := Lib.hid (show ∀ (u : World), Below w.heap.size w u → (u.cell? ⟨b, off, none⟩ = some (.int .i64 x.s0.count) ∧ u.cell? ⟨b, off + 1, none⟩ = some (.slice Bs x.s0.trusts.length ts) ∧ u.cell? ⟨b, off + 2, none⟩ = some (.int .i64 x.s0.mac) ∧ u.cell? ⟨b, off + 3, none⟩ = some (.slice Ds x.s0.cells.length ds)) from fun u hu => ⟨(hu.cell (p := ⟨b, _, none⟩) hbb).trans y0, (hu.cell (p := ⟨b, _, none⟩) hbb).trans y1, (hu.cell (p := ⟨b, _, none⟩) hbb).trans y2, (hu.cell (p := ⟨b, _, none⟩) hbb).trans y3⟩)
    have TW := Lib.hid hrw.1
    have CW := Lib.hid hrw.2
    clear y0 y1 y2 y3 hrw
    have BU3 := Lib.hid bu3
    have KK := Lib.hid hk3
    clear bu3 hk3 hv3
    clear kc0 kf0 kc1 kf1 kc2 kf2
    have HB9 := Lib.hid (box_below u3 (.cells #[] 118))
    have hk3a := KK.out.alloc (.cells #[] 118)
    have HA := Lib.hid (((CW.out.below hk3a.1 (Nat.le_refl _)).news ceV_len (by omega)))
    have HR := Lib.hid (SRow.made (enc := ceV) (n := 2) (T := 118) u3 (Nat.le_refl _))
    have hl : (flatS ceV x.s0.cells).length = x.s0.cells.length * 2 := flatS_length ceV_len
    have h1 := ceV_one x.s0.cells
    obtain ⟨q0, q1, q2, q3⟩ := QQ.out _ hk3a.1
    obtain ⟨kc0, kf0, kc1, kf1, kc2, kf2, -⟩ := hk3a.rd
    go_wp2_with (at_builtin; refine wpList_append_row rfl _ _ 28 rfl u3.heap.size 118 2 16 0 (.agg zC) (.slice (some ⟨u3.heap.size, 0, none⟩) 0 0) [] Ds x.s0.cells.length ds (flatS ceV x.s0.cells) Tryz.underlying28 info_cel rfl (by omega) rfl HR.out rfl hl HA.out h1 (by unfold maxLen; omega) (by omega) (by simp) ?_)
    intro v9 u4 hown hg4 hat4
    have hr9 : ClRow u4 u3.heap.size v9 x.s0.cells := by first | exact hown | (rw [Nat.zero_add, List.nil_append] at hown; exact hown)
    obtain ⟨C9, c9, rfl, -, -⟩ := hr9.reads ceV_len
    have hb4 : Below u3.heap.size u3 u4 := bgb HB9.out (g := u3.heap.size) (by simpa [Value.ownBlock] using hg4) (by simp) (Nat.le_refl _)
    have hk4 := KK.out.below hb4
    have bu4 := BU3.out.trans (hb4.mono (Nat.le_of_lt lu3))
    have hlt9 : ∀ y ∈ blkOf (.slice C9 x.s0.cells.length c9), y < u4.heap.size := fun y hy => (row_at hr9 y hy).2
    have hz4 := hb4.size
    clear hk3a KK BU3 HB9 HA HR hown hg4 hat4 hb4 q0 q1 q2 q3 hl h1 kc0 kf0 kc1 kf1 kc2 kf2
    obtain ⟨kc0, kf0, kc1, kf1, kc2, kf2, -⟩ := hk4.rd
    go_upto_region 10 with fail
    have hg5 := gb_set (gb_refl u4 (some u1.heap.size)) 3 (.slice C9 x.s0.cells.length c9)
    have hk5 : Kept w [(u1.heap.size, 31, #[.int .i64 x.key, .slice A' x.counts.length c', .slice B' x.trusts.length d', .slice C9 x.s0.cells.length c9, .slice (some ⟨b', o', none⟩) 2 s', .int .i64 x.count]), (w.heap.size + 1, 31, zV), (w.heap.size, 31, (vX x A cap B tc C cc b off sc))] _ := hk4.put (k := 0) rfl (by unfold Apart; simp; omega) hg5 ((hk4.at_ (p := u1.heap.size) (t := 31) (cs := (vX x A' c' B' d' C' e' b' o' s')) (by simp)).set_ 3 _)
    have hr5 := hr9.grown hg5 lu3
    have bu5 := bgb bu4 hg5 (Nat.le_trans (Nat.le_of_lt lu3) hz4) (Nat.le_refl _)
    have hz5 := hg5.size
    clear hr9 bu4 hg5
    clear hk4 kc0 kf0 kc1 kf1 kc2 kf2
    generalize World.setCell u4 _ _ = u5 at hk5 hr5 bu5 hz5 ⊢
    obtain ⟨kc0, kf0, kc1, kf1, kc2, kf2, -⟩ := hk5.rd
    obtain ⟨q0, q1, q2, q3⟩ := QQ.out _ hk5.1
    have TR5 := Lib.hid ((TW.out.below hk5.1 (Nat.le_refl _)).more hk5.1.size)
    have KK := Lib.hid hk5
    have HR5 := Lib.hid hr5
    have BU5 := Lib.hid bu5
    clear hk5 hr5 bu5
    go_wp2_with fail
    refine (l10Copy_calls Bs x.s0.trusts ts _ (by omega) TR5.out).mono ?_; rintro e u6 ⟨v10, rfl, hr10, b6⟩
    obtain ⟨B9, d9, rfl, -, -⟩ := hr10.reads truV_len
    have hk6 := KK.out.below b6
    have hr6 := HR5.out.below b6
    have lu5 : u1.heap.size < u5.heap.size := by omega
    have bu6 := BU5.out.trans (b6.mono (Nat.le_of_lt lu5))
    clear KK HR5 BU5 b6 TR5 q0 q1 q2 q3 kc0 kf0 kc1 kf1 kc2 kf2
    obtain ⟨kc0, kf0, kc1, kf1, kc2, kf2, -⟩ := hk6.rd
    go_upto_region 11 with fail
    have hg7 := gb_set (gb_refl u6 (some u1.heap.size)) 2 (.slice B9 x.s0.trusts.length d9)
    have hk7 : Kept w [(u1.heap.size, 31, #[.int .i64 x.key, .slice A' x.counts.length c', .slice B9 x.s0.trusts.length d9, .slice C9 x.s0.cells.length c9, .slice (some ⟨b', o', none⟩) 2 s', .int .i64 x.count]), (w.heap.size + 1, 31, zV), (w.heap.size, 31, (vX x A cap B tc C cc b off sc))] _ := hk6.put (k := 0) rfl (by unfold Apart; simp; omega) hg7 ((hk6.at_ (p := u1.heap.size) (t := 31) (cs := #[.int .i64 x.key, .slice A' x.counts.length c', .slice B' x.trusts.length d', .slice C9 x.s0.cells.length c9, .slice (some ⟨b', o', none⟩) 2 s', .int .i64 x.count]) (by simp)).set_ 2 _)
    have hr7 := hr6.grown hg7 lu3
    have ht7 := hr10.grown hg7 lu5
    have bu7 := bgb bu6 hg7 bu6.size (Nat.le_refl _)
    have hs := sep_new hlt9 (fun y hy => Nat.le_trans hz5 (row_at hr10 y hy).1)
    have hv7 := HU.out.newBoth bu7 hr7 ht7 (Nat.le_of_lt lu3) (Nat.le_of_lt lu5) hs (by omega)
    clear hg7 hr6 hr10 bu6 hs hr7 ht7 bu7
    clear hk6 kc0 kf0 kc1 kf1 kc2 kf2
    generalize World.setCell u6 _ _ = u7 at hk7 hv7 ⊢
    obtain ⟨kc0, kf0, kc1, kf1, kc2, kf2, -⟩ := hk7.rd
    have HV := Lib.hid hv7
    have KK := Lib.hid hk7
    clear hv7 hk7 HU
    go_wp2_with fail
    obtain ⟨w9, e9, ⟨d0, d1, d2, d3, d4, d5⟩, hb9, hg9⟩ := vol_end (w := w) (x0 := .int .i64 x.key) (x1 := .slice A' x.counts.length c') (x2 := .slice B9 x.s0.trusts.length d9) (x3 := .slice C9 x.s0.cells.length c9) (x4 := .slice (some ⟨b', o', none⟩) 2 s') (x5 := .int .i64 x.count) (KK.out.at_ (p := w.heap.size + 1) (t := 31) (cs := zV) (by simp)) KK.out.1 (by omega)
    rw [e9]
    exact bodyPost_ret (v := .tuple #[.agg #[.int .i64 x.key, .slice A' x.counts.length c', .slice B9 x.s0.trusts.length d9, .slice C9 x.s0.cells.length c9, .slice (some ⟨b', o', none⟩) 2 s', .int .i64 x.count], .int .i64 0]) (by simp [results, Tryz.results93, go_sem, d0, d1, d2, d3, d4, d5]) rfl ⟨_, rfl, (HV.out.out hg9 (by omega)).mono (by omega), hb9⟩
  · rw [if_neg (by decide), if_neg (by decide)]
    go_enter Tryz.func93, Tryz.ntmps93
    go_wp2_with fail
    refine (CO.out _ K0.out.1).mono ?_; rintro e u1 ⟨vv, rfl, hv, hb1⟩
    have hk1 := K0.out.below hb1
    obtain ⟨A', c', B', d', C', e', b', o', s', rfl, -⟩ := hv.reads
    have hv1 := hv.mono (show w.heap.size + 1 + 1 ≤ _ by simp)
    have hbl := hv.slotsGet.2.2.2.1
    have lo0 : w.heap.size + 1 < u1.heap.size := hk1.lt (x := (w.heap.size + 1, 31, zV)) (by simp)
    have lo1 : w.heap.size < u1.heap.size := hk1.lt (x := (w.heap.size, 31, (vX x A cap B tc C cc b off sc))) (by simp)
    have hk2 := hk1.put1 u1.heap.size 31 (vX x A' c' B' d' C' e' b' o' s') rfl
    have hv2 := hv1.below ((Below.refl _ _).alloc (Nat.le_refl _) (.cells (vX x A' c' B' d' C' e' b' o' s') 31))
    have BU0 := Lib.hid ((Below.refl u1.heap.size u1).alloc (Nat.le_refl _) (.cells (vX x A' c' B' d' C' e' b' o' s') 31))
    have HU := Lib.hid hv1
    clear hb1 hk1 hv hv1 CO
    go_upto_region 2 with fail
    have bu := BU0.out
    clear BU0
    generalize World.alloc u1 _ = u2 at hk2 hv2 bu ⊢
    have BU := Lib.hid bu
    clear bu
    obtain ⟨kc0, kf0, kc1, kf1, kc2, kf2, -⟩ := hk2.rd
    have HV := Lib.hid hv2
    clear hv2
    have KK := Lib.hid hk2
    go_wp2_with fail
    refine (CH.out _ KK.out.1).mono ?_; rintro e u3 ⟨rfl, b3⟩
    have hk3 := KK.out.below b3
    have hv3 := HV.out.below b3
    have bu3 := BU.out.trans (b3.mono (Nat.le_trans BU.out.size (Nat.le_refl _)))
    have lu3 : u1.heap.size < u3.heap.size := hk3.lt (x := (u1.heap.size, 31, (vX x A' c' B' d' C' e' b' o' s'))) (by simp)
    clear b3 KK HV BU CH hk2 kc0 kf0 kc1 kf1 kc2 kf2
    obtain ⟨kc0, kf0, kc1, kf1, kc2, kf2, -⟩ := hk3.rd
    obtain ⟨Bs, ts, Ds, ds, y0, y1, y2, y3, hrw⟩ := H1.out
    have QQ := Lib.hid (show ∀ (u : World), Below w.heap.size w u → (u.cell? ⟨b, off + 4, none⟩ = some (.int .i64 x.s1.count) ∧ u.cell? ⟨b, off + 4 + 1, none⟩ = some (.slice Bs x.s1.trusts.length ts) ∧ u.cell? ⟨b, off + 4 + 2, none⟩ = some (.int .i64 x.s1.mac) ∧ u.cell? ⟨b, off + 4 + 3, none⟩ = some (.slice Ds x.s1.cells.length ds)) from fun u hu => ⟨(hu.cell (p := ⟨b, _, none⟩) hbb).trans y0, (hu.cell (p := ⟨b, _, none⟩) hbb).trans y1, (hu.cell (p := ⟨b, _, none⟩) hbb).trans y2, (hu.cell (p := ⟨b, _, none⟩) hbb).trans y3⟩)
    have TW := Lib.hid hrw.1
    have CW := Lib.hid hrw.2
    clear y0 y1 y2 y3 hrw
    have BU3 := Lib.hid bu3
    have KK := Lib.hid hk3
    clear bu3 hk3 hv3
    clear kc0 kf0 kc1 kf1 kc2 kf2
    have HB9 := Lib.hid (box_below u3 (.cells #[] 118))
    have hk3a := KK.out.alloc (.cells #[] 118)
    have HA := Lib.hid (((CW.out.below hk3a.1 (Nat.le_refl _)).news ceV_len (by omega)))
    have HR := Lib.hid (SRow.made (enc := ceV) (n := 2) (T := 118) u3 (Nat.le_refl _))
    have hl : (flatS ceV x.s1.cells).length = x.s1.cells.length * 2 := flatS_length ceV_len
    have h1 := ceV_one x.s1.cells
    obtain ⟨q0, q1, q2, q3⟩ := QQ.out _ hk3a.1
    obtain ⟨kc0, kf0, kc1, kf1, kc2, kf2, -⟩ := hk3a.rd
    go_wp2_with (at_builtin; refine wpList_append_row rfl _ _ 28 rfl u3.heap.size 118 2 16 0 (.agg zC) (.slice (some ⟨u3.heap.size, 0, none⟩) 0 0) [] Ds x.s1.cells.length ds (flatS ceV x.s1.cells) Tryz.underlying28 info_cel rfl (by omega) rfl HR.out rfl hl HA.out h1 (by unfold maxLen; omega) (by omega) (by simp) ?_)
    intro v9 u4 hown hg4 hat4
    have hr9 : ClRow u4 u3.heap.size v9 x.s1.cells := by first | exact hown | (rw [Nat.zero_add, List.nil_append] at hown; exact hown)
    obtain ⟨C9, c9, rfl, -, -⟩ := hr9.reads ceV_len
    have hb4 : Below u3.heap.size u3 u4 := bgb HB9.out (g := u3.heap.size) (by simpa [Value.ownBlock] using hg4) (by simp) (Nat.le_refl _)
    have hk4 := KK.out.below hb4
    have bu4 := BU3.out.trans (hb4.mono (Nat.le_of_lt lu3))
    have hlt9 : ∀ y ∈ blkOf (.slice C9 x.s1.cells.length c9), y < u4.heap.size := fun y hy => (row_at hr9 y hy).2
    have hz4 := hb4.size
    clear hk3a KK BU3 HB9 HA HR hown hg4 hat4 hb4 q0 q1 q2 q3 hl h1 kc0 kf0 kc1 kf1 kc2 kf2
    obtain ⟨kc0, kf0, kc1, kf1, kc2, kf2, -⟩ := hk4.rd
    go_upto_region 10 with fail
    have hg5 := gb_set (gb_refl u4 (some u1.heap.size)) 3 (.slice C9 x.s1.cells.length c9)
    have hk5 : Kept w [(u1.heap.size, 31, #[.int .i64 x.key, .slice A' x.counts.length c', .slice B' x.trusts.length d', .slice C9 x.s1.cells.length c9, .slice (some ⟨b', o', none⟩) 2 s', .int .i64 x.count]), (w.heap.size + 1, 31, zV), (w.heap.size, 31, (vX x A cap B tc C cc b off sc))] _ := hk4.put (k := 0) rfl (by unfold Apart; simp; omega) hg5 ((hk4.at_ (p := u1.heap.size) (t := 31) (cs := (vX x A' c' B' d' C' e' b' o' s')) (by simp)).set_ 3 _)
    have hr5 := hr9.grown hg5 lu3
    have bu5 := bgb bu4 hg5 (Nat.le_trans (Nat.le_of_lt lu3) hz4) (Nat.le_refl _)
    have hz5 := hg5.size
    clear hr9 bu4 hg5
    clear hk4 kc0 kf0 kc1 kf1 kc2 kf2
    generalize World.setCell u4 _ _ = u5 at hk5 hr5 bu5 hz5 ⊢
    obtain ⟨kc0, kf0, kc1, kf1, kc2, kf2, -⟩ := hk5.rd
    obtain ⟨q0, q1, q2, q3⟩ := QQ.out _ hk5.1
    have TR5 := Lib.hid ((TW.out.below hk5.1 (Nat.le_refl _)).more hk5.1.size)
    have KK := Lib.hid hk5
    have HR5 := Lib.hid hr5
    have BU5 := Lib.hid bu5
    clear hk5 hr5 bu5
    go_wp2_with fail
    refine (l10Copy_calls Bs x.s1.trusts ts _ (by omega) TR5.out).mono ?_; rintro e u6 ⟨v10, rfl, hr10, b6⟩
    obtain ⟨B9, d9, rfl, -, -⟩ := hr10.reads truV_len
    have hk6 := KK.out.below b6
    have hr6 := HR5.out.below b6
    have lu5 : u1.heap.size < u5.heap.size := by omega
    have bu6 := BU5.out.trans (b6.mono (Nat.le_of_lt lu5))
    clear KK HR5 BU5 b6 TR5 q0 q1 q2 q3 kc0 kf0 kc1 kf1 kc2 kf2
    obtain ⟨kc0, kf0, kc1, kf1, kc2, kf2, -⟩ := hk6.rd
    go_upto_region 11 with fail
    have hg7 := gb_set (gb_refl u6 (some u1.heap.size)) 2 (.slice B9 x.s1.trusts.length d9)
    have hk7 : Kept w [(u1.heap.size, 31, #[.int .i64 x.key, .slice A' x.counts.length c', .slice B9 x.s1.trusts.length d9, .slice C9 x.s1.cells.length c9, .slice (some ⟨b', o', none⟩) 2 s', .int .i64 x.count]), (w.heap.size + 1, 31, zV), (w.heap.size, 31, (vX x A cap B tc C cc b off sc))] _ := hk6.put (k := 0) rfl (by unfold Apart; simp; omega) hg7 ((hk6.at_ (p := u1.heap.size) (t := 31) (cs := #[.int .i64 x.key, .slice A' x.counts.length c', .slice B' x.trusts.length d', .slice C9 x.s1.cells.length c9, .slice (some ⟨b', o', none⟩) 2 s', .int .i64 x.count]) (by simp)).set_ 2 _)
    have hr7 := hr6.grown hg7 lu3
    have ht7 := hr10.grown hg7 lu5
    have bu7 := bgb bu6 hg7 bu6.size (Nat.le_refl _)
    have hs := sep_new hlt9 (fun y hy => Nat.le_trans hz5 (row_at hr10 y hy).1)
    have hv7 := HU.out.newBoth bu7 hr7 ht7 (Nat.le_of_lt lu3) (Nat.le_of_lt lu5) hs (by omega)
    clear hg7 hr6 hr10 bu6 hs hr7 ht7 bu7
    clear hk6 kc0 kf0 kc1 kf1 kc2 kf2
    generalize World.setCell u6 _ _ = u7 at hk7 hv7 ⊢
    obtain ⟨kc0, kf0, kc1, kf1, kc2, kf2, -⟩ := hk7.rd
    have HV := Lib.hid hv7
    have KK := Lib.hid hk7
    clear hv7 hk7 HU
    go_wp2_with fail
    obtain ⟨w9, e9, ⟨d0, d1, d2, d3, d4, d5⟩, hb9, hg9⟩ := vol_end (w := w) (x0 := .int .i64 x.key) (x1 := .slice A' x.counts.length c') (x2 := .slice B9 x.s1.trusts.length d9) (x3 := .slice C9 x.s1.cells.length c9) (x4 := .slice (some ⟨b', o', none⟩) 2 s') (x5 := .int .i64 x.count) (KK.out.at_ (p := w.heap.size + 1) (t := 31) (cs := zV) (by simp)) KK.out.1 (by omega)
    rw [e9]
    exact bodyPost_ret (v := .tuple #[.agg #[.int .i64 x.key, .slice A' x.counts.length c', .slice B9 x.s1.trusts.length d9, .slice C9 x.s1.cells.length c9, .slice (some ⟨b', o', none⟩) 2 s', .int .i64 x.count], .int .i64 0]) (by simp [results, Tryz.results93, go_sem, d0, d1, d2, d3, d4, d5]) rfl ⟨_, rfl, (HV.out.out hg9 (by omega)).mono (by omega), hb9⟩
theorem steps_store4 {P : Program} {ρ : Operand → Value} {o : Oper} {t : TypeId} {x y : Operand} {w : World} {K : Value → World → Prop} {p off : Nat} {T : TypeId} {old : Array Value} {a b c d : Value}
    (hc : CellsAt w p T old) (hsz : off + 4 ≤ old.size) (hop : o.op = .store t x y) (hx : ρ x = .pointer (some ⟨p, off, none⟩)) (hy : ρ y = .agg #[a, b, c, d]) (hi : (P.info? t).map (·.size) = some 4) (h1 : (#[a, b, c, d] : Array Value).all (·.oneCell') = true)
    (h : ∀ w', CellsAt w' p T ((((old.setIfInBounds off a).setIfInBounds (off + 1) b).setIfInBounds (off + 2) c).setIfInBounds (off + 3) d) → w.grownBy w' (some p) → K undef w') : stepsTo P ((execOp ρ o).run P w) K := by
  have e := run_storeAt_mid (P := P) w p off t #[a, b, c, d] (fun j hj => ⟨by rw [hc.cell]; simp at hj; simp; omega, hc.frozen _⟩) hi h1
  have e2 : (execOp ρ o).run P w = .ok .skip (w.setCells p off [a, b, c, d]) := by
    unfold execOp
    rw [hop]
    simp only [hx, hy, Sem.run_bind, e, Result.andThen_ok, Sem.run_pure]
  rw [e2]
  exact h _ ((((hc.set_ off a).set_ (off + 1) b).set_ (off + 2) c).set_ (off + 3) d) (gb_set (gb_set (gb_set (gb_set (gb_refl w (some p)) off a) (off + 1) b) (off + 2) c) (off + 3) d)
def SaveC (b w0 : World) (L : List Box) (M : List Ce) (p : Nat) (T : TypeId) (old : Array Value) (V : Value → Array Value) (D : Nat → Bool) (γ : Nat → Value) (u : World) : Prop :=
  Kept b L u ∧ w0.grownBy u (some p) ∧ (D 13 = false → CellsAt u p T old) ∧ (D 13 = true → CellsAt u p T (V (γ 10))) ∧ (D 7 = true → D 10 = false → ClRow u w0.heap.size (γ 7) []) ∧ (D 10 = true → ClRow u w0.heap.size (γ 10) M) ∧ (D 10 = true → D 7 = true) ∧ (D 13 = true → D 10 = true)
theorem gb_newer {a u v : World} {r : Option Nat} {g : Nat} (h : a.grownBy u r) (hg : u.grownBy v (some g)) (hn : a.heap.size ≤ g) : a.grownBy v r :=
  ⟨hg.os.trans h.os, hg.tape.trans h.tape, hg.output.trans h.output, Nat.le_trans h.size hg.size, fun i hi hr => (hg.block i (Nat.lt_of_lt_of_le hi h.size) (by intro e; injection e with e; omega)).trans (h.block i hi hr)⟩
section
variable {b w0 u v : World} {p : Nat} {L : List Box} {M : List Ce} {T : TypeId} {old : Array Value} {V : Value → Array Value} {D : Nat → Bool} {γ γ' : Nat → Value}
theorem setD_self {D : Nat → Bool} {i : Nat} : setD D i i = true := by simp [setD]
theorem setD_ne {D : Nat → Bool} {i j : Nat} (h : j ≠ i) : setD D i j = D j := by simp [setD, h]
theorem setG_self {γ : Nat → Value} {i : Nat} {w : Value} : setG γ i w i = w := by simp [setG]
theorem setG_ne {γ : Nat → Value} {i j : Nat} {w : Value} (h : j ≠ i) : setG γ i w j = γ j := by simp [setG, h]
theorem SaveC.loc (ha : ∀ i, D i = true → γ i = γ' i) (h : SaveC b w0 L M p T old V D γ u) : SaveC b w0 L M p T old V D γ' u := by
  obtain ⟨h1, h2, h3, h4, h5, h6, h7, h8⟩ := h
  refine ⟨h1, h2, h3, fun e => ?_, fun e e' => ?_, fun e => ?_, h7, h8⟩
  · rw [← ha 10 (h8 e)]; exact h4 e
  · rw [← ha 7 e]; exact h5 e e'
  · rw [← ha 10 e]; exact h6 e
theorem SaveC.start (h : Kept b L u) (hc : CellsAt u p T old) : SaveC b u L M p T old V (fun _ => false) γ u.drew :=
  ⟨h.drew, gb_drew (gb_refl u (some p)), fun _ => hc, fun e => by (cases e), fun e => by (cases e), fun e => by (cases e), fun e => by (cases e), fun e => by (cases e)⟩
theorem SaveC.build (h : SaveC b w0 L M p T old V D γ u) (hD : D 7 = false) (hp : p < w0.heap.size) : SaveC b w0 L M p T old V (setD D 7) (setG γ 7 (.slice (some ⟨u.heap.size, 0, none⟩) 0 0)) (u.alloc (.cells #[] 118)) := by
  obtain ⟨h1, h2, h3, h4, h5, h6, h7, h8⟩ := h
  have d10 : D 10 = false := by cases e : D 10 with | false => rfl | true => rw [h7 e] at hD; cases hD
  have d13 : D 13 = false := by cases e : D 13 with | false => rfl | true => rw [h8 e] at d10; cases d10
  have hb := box_below u (.cells #[] 118)
  refine ⟨h1.alloc _, gb_alloc h2 _, fun _ => (h3 d13).below hb (Nat.lt_of_lt_of_le hp h2.size), fun e => ?_, fun _ _ => ?_, fun e => ?_, fun _ => setD_self, fun e => ?_⟩
  · rw [setD_ne (by omega), d13] at e; cases e
  · rw [setG_self]; exact SRow.made u h2.size
  · rw [setD_ne (by omega), d10] at e; cases e
  · rw [setD_ne (by omega), d13] at e; cases e
theorem SaveC.append (h : SaveC b w0 L M p T old V D γ u) (h7' : D 7 = true) (hD : D 10 = false) (hp : p < w0.heap.size) (hL : ∀ x ∈ L, x.1 < w0.heap.size) (hb0 : b.heap.size ≤ w0.heap.size) {g : Nat} (hg7 : γ 7 = .slice (some ⟨g, 0, none⟩) 0 0) {v' : Value} (hr : ClRow v w0.heap.size v' M) (hg : u.grownBy v (some g)) : SaveC b w0 L M p T old V (setD D 10) (setG γ 10 v') v := by
  obtain ⟨h1, h2, h3, h4, h5, h6, h7, h8⟩ := h
  have d13 : D 13 = false := by cases e : D 13 with | false => rfl | true => rw [h8 e] at hD; cases hD
  have hgn : w0.heap.size ≤ g := by have h := h5 h7' hD; rw [hg7] at h; exact (SRow.lt h rfl).1
  refine ⟨h1.grown hg (by omega) (fun x hx => by have := hL x hx; omega), gb_newer h2 hg hgn, fun _ => (h3 d13).grown hg (by intro e; injection e; omega), fun e => ?_, fun _ e => ?_, fun _ => ?_, fun _ => ?_, fun _ => setD_self⟩
  · rw [setD_ne (by omega), d13] at e; cases e
  · rw [setD_self] at e; cases e
  · rw [setG_self]; exact hr
  · rw [setD_ne (by omega)]; exact h7'
theorem SaveC.store (h : SaveC b w0 L M p T old V D γ u) (hd : D 10 = true) (hp : p < w0.heap.size) (hb0 : b.heap.size ≤ p) (hL : ∀ x ∈ L, x.1 ≠ p) (hg : u.grownBy v (some p)) (hc : CellsAt v p T (V (γ 10))) {w : Value} : SaveC b w0 L M p T old V (setD D 13) (setG γ 13 w) v := by
  obtain ⟨h1, h2, h3, h4, h5, h6, h7, h8⟩ := h
  refine ⟨h1.grown hg hb0 hL, gb_trans h2 hg, fun e => ?_, fun _ => ?_, fun _ e => ?_, fun _ => ?_, fun _ => ?_, fun _ => ?_⟩
  · rw [setD_self] at e; cases e
  · rw [setG_ne (by omega)]; exact hc
  · rw [setD_ne (by omega), hd] at e; cases e
  · rw [setG_ne (by omega)]; exact (h6 hd).grown hg hp
  · rw [setD_ne (by omega)]; exact h7 hd
  · rw [setD_ne (by omega)]; exact hd
end
open Go.ChangeShapes Go.WideShapes Go.ChangeAt Go.RowKit Go.Maps
theorem vol_put {w1 : World} {r : Nat} {t : TypeId} {x0 x1 x2 x3 x4 x5 y0 y1 y2 y3 y4 y5 : Value} (hk : CellsAt w1 r t #[y0, y1, y2, y3, y4, y5]) :
    CellsAt ((((((w1.setCell ⟨r, 0, none⟩ x0).setCell ⟨r, 1, none⟩ x1).setCell ⟨r, 2, none⟩ x2).setCell ⟨r, 3, none⟩ x3).setCell ⟨r, 4, none⟩ x4).setCell ⟨r, 5, none⟩ x5) r t #[x0, x1, x2, x3, x4, x5] ∧
    w1.grownBy ((((((w1.setCell ⟨r, 0, none⟩ x0).setCell ⟨r, 1, none⟩ x1).setCell ⟨r, 2, none⟩ x2).setCell ⟨r, 3, none⟩ x3).setCell ⟨r, 4, none⟩ x4).setCell ⟨r, 5, none⟩ x5) (some r) := by
  have h := (((((hk.set_ 0 x0).set_ 1 x1).set_ 2 x2).set_ 3 x3).set_ 4 x4).set_ 5 x5
  simp only [List.setIfInBounds_toArray, List.set_cons_zero, List.set_cons_succ] at h
  exact ⟨h, gb_set (gb_set (gb_set (gb_set (gb_set (gb_set (gb_refl w1 (some r)) 0 x0) 1 x1) 2 x2) 3 x3) 4 x4) 5 x5⟩
theorem trustOk.i64 {key : Int} {l : List Int} {r : Int} {t : Tru} (h : trustOk key l r t) : TruI t := by
  obtain ⟨hp, p2, p3, p4, p5, p6, p7, p8, p9, p10⟩ := h
  have hl : l.getD r.toNat 0 ≤ 8 := (hp.2.2.1 r.toNat (by omega)).2
  unfold isTm at p3
  unfold isSumP at p7 p8 p9 p10
  exact ⟨⟨by omega, by omega⟩, ⟨by omega, by omega⟩, ⟨by omega, by omega⟩, ⟨by omega, by omega⟩, ⟨by omega, by omega⟩, ⟨by omega, by omega⟩, ⟨by omega, by omega⟩⟩
theorem trustsOk.i64 {key : Int} {l : List Int} {L : List Tru} (h : trustsOk key l L) : TrusI L := fun i hi => (h.2.2 i hi).i64
def SlN.Inv (key : Int) (l : List Int) (s : SlN) : Prop := (s.cells = [] ∨ cellsOk key l s.cells) ∧ s.trusts.length ≤ 4 ∧ TrusI s.trusts ∧ I64 s.count ∧ I64 s.mac
def VolN.Inv (x : VolN) : Prop := planOk x.key x.counts ∧ trustsOk x.key x.counts x.trusts ∧ cellsOk x.key x.counts x.cells ∧ (0 ≤ x.count ∧ x.count ≤ 10000) ∧ x.s0.Inv x.key x.counts ∧ x.s1.Inv x.key x.counts
theorem cellsOk.len {key : Int} {l : List Int} {L : List Ce} (hp : planOk key l) (h : cellsOk key l L) : (L.length : Int) = upTo l l.length ∧ L.length ≤ 24 := by
  have e := h.2
  unfold sectorsOf at e
  rw [if_pos hp] at e
  have := hp.2.2.2
  exact ⟨e, by omega⟩
theorem SlN.Inv.fits {key : Int} {l : List Int} {s : SlN} (hp : planOk key l) (h : s.Inv key l) : s.Fits := by
  obtain ⟨h0, h1, h2, h3, h4⟩ := h
  refine ⟨by omega, ?_, h2, h3⟩
  rcases h0 with h0 | h0
  · rw [h0]; simp
  · have := (h0.len hp).2; omega
theorem VolN.Inv.short {x : VolN} (h : x.Inv) : x.Short := by
  obtain ⟨hp, ht, hc, hn, h0, h1⟩ := h
  have a := hp.2.1.2
  have b := ht.2.1
  have c := (hc.len hp).2
  have d := h0.fits hp
  have e := h1.fits hp
  exact ⟨by omega, by omega, by omega, d.1, d.2.1, e.1, e.2.1⟩
def VolN.toG (x : VolN) : VolG := ⟨x.key, x.counts, x.trusts, x.cells, [x.s0, x.s1], x.count⟩
def VolG.toN (x : VolG) : VolN := ⟨x.key, x.counts, x.trusts, x.cells, x.slots.getD 0 default, x.slots.getD 1 default, x.count⟩
def zeroG : VolG := ⟨0, [], [], [], [], 0⟩
def optG (o : Option VolN) : VolG := o.elim zeroG VolN.toG
def VolQ (u : World) (base : Nat) (o : Option VolN) (v : Value) : Prop := match o with | none => v = .agg #[.int .i64 0, .slice none 0 0, .slice none 0 0, .slice none 0 0, .slice none 0 0, .int .i64 0] | some x => VolO u base x v
theorem RdG.zero (w : World) (Bd : Nat) : RdG w Bd zeroG (.agg #[.int .i64 0, .slice none 0 0, .slice none 0 0, .slice none 0 0, .slice none 0 0, .int .i64 0]) := ⟨none, 0, none, 0, none, 0, none, 0, rfl, fun i hi => by simp [zeroG] at hi, Sls.nil, Sls.nil, fun i hi => by simp [zeroG] at hi, Nat.le_refl _, Nat.le_refl _⟩
theorem VolR.toG {w : World} {Bd : Nat} {x : VolN} {v : Value} (h : VolR w Bd x v) (hs : ∃ A c B d C e b o s, v = .agg #[.int .i64 x.key, .slice A x.counts.length c, .slice B x.trusts.length d, .slice C x.cells.length e, .slice (some ⟨b, o, none⟩) 2 s, .int .i64 x.count] ∧ 2 ≤ s) : RdG w Bd x.toG v := by
  obtain ⟨A, c, B, d, C, e, b, off, sc, rfl, h1, h2, h3, h4, h5, h6, h7⟩ := h
  obtain ⟨_, _, _, _, _, _, _, _, _, e1, h8⟩ := hs
  simp only [Value.agg.injEq, Array.mk.injEq, List.cons.injEq, Value.slice.injEq, true_and, and_true] at e1
  obtain ⟨-, -, -, -, rfl⟩ := e1
  refine ⟨A, c, B, d, C, e, _, sc, rfl, h1, h2, h3, fun i hi => ?_, h7, h8⟩
  simp only [VolN.toG, List.length_cons, List.length_nil] at hi
  obtain rfl | rfl : i = 0 ∨ i = 1 := by omega
  · exact ⟨b, off, rfl, h4, h5⟩
  · exact ⟨b, off, rfl, h4, h6⟩
theorem VolQ.reads {u : World} {base : Nat} {o : Option VolN} {v : Value} (h : VolQ u base o v) : RdG u u.heap.size (optG o) v := by
  cases o with
  | none => have e : v = .agg #[.int .i64 0, .slice none 0 0, .slice none 0 0, .slice none 0 0, .slice none 0 0, .int .i64 0] := h; subst e; exact RdG.zero _ _
  | some x =>
    refine VolR.toG (VolO.reads h) ?_
    obtain ⟨A, c, B, d, C, e, g, A0, c0, C0, d0, A1, c1, C1, d1, rfl, -⟩ := h
    exact ⟨A, c, B, d, C, e, g, 0, 2, rfl, Nat.le_refl _⟩
def Mid (lo hi : Nat) (u v : World) : Prop := v.os = u.os ∧ v.tape = u.tape ∧ v.output = u.output ∧ u.heap.size ≤ v.heap.size ∧ ∀ k, k < u.heap.size → (k < lo ∨ hi ≤ k) → v.heap[k]? = u.heap[k]?
theorem Mid.refl (lo hi : Nat) (u : World) : Mid lo hi u u := ⟨rfl, rfl, rfl, Nat.le_refl _, fun _ _ _ => rfl⟩
theorem Mid.trans {lo hi : Nat} {u v w : World} (h : Mid lo hi u v) (h' : Mid lo hi v w) : Mid lo hi u w :=
  ⟨h'.1.trans h.1, h'.2.1.trans h.2.1, h'.2.2.1.trans h.2.2.1, Nat.le_trans h.2.2.2.1 h'.2.2.2.1, fun k hk hr => (h'.2.2.2.2 k (Nat.lt_of_lt_of_le hk h.2.2.2.1) hr).trans (h.2.2.2.2 k hk hr)⟩
theorem Mid.of {lo hi : Nat} {u v : World} {r : Option Nat} (hg : u.grownBy v r) (h : ∀ k, r = some k → lo ≤ k ∧ k < hi) : Mid lo hi u v :=
  ⟨hg.os, hg.tape, hg.output, hg.size, fun k hk hr => hg.block k hk (fun e => by have := h k e.symm; omega)⟩
theorem Mid.of_below {lo hi : Nat} {u v : World} (h : Below u.heap.size u v) : Mid lo hi u v := ⟨h.os, h.tape, h.output, h.size, fun k hk _ => h.block k hk⟩
theorem Mid.below {lo hi : Nat} {u v : World} (h : Mid lo hi u v) (hl : lo ≤ u.heap.size) : Below lo u v := ⟨h.1, h.2.1, h.2.2.1, h.2.2.2.1, fun k hk => h.2.2.2.2 k (by omega) (.inl hk)⟩
theorem row_same {u u' : World} {base t size n : Nat} {v : Value} {xs : List Value} (h : u.ownsRow base t size v n xs) (hs : ∀ g, v.ownBlock = some g → u'.heap[g]? = u.heap[g]?) : u'.ownsRow base t size v n xs := by
  refine ⟨h.1, ?_⟩
  rcases h.2 with h0 | ⟨g, cap, cur, rfl, hb, hg, r⟩
  · exact .inl h0
  · exact .inr ⟨g, cap, cur, rfl, hb, (hs g rfl).trans hg, r⟩
theorem row_mid {u u' : World} {base lo hi t size n : Nat} {v : Value} {xs : List Value} (h : u.ownsRow base t size v n xs) (hm : Mid lo hi u u') (hb : hi ≤ base) : u'.ownsRow base t size v n xs :=
  row_same h (fun g e => hm.2.2.2.2 g (World.ownsRow.lt h g e).2 (.inr (Nat.le_trans hb (World.ownsRow.lt h g e).1)))
theorem VolO.mid {u u' : World} {base lo hi : Nat} {x : VolN} {v : Value} (h : VolO u base x v) (hm : Mid lo hi u u') (hb : hi ≤ base) : VolO u' base x v := by
  obtain ⟨A, c, B, d, C, e, g, A0, c0, C0, d0, A1, c1, C1, d1, rfl, h1, h2, h3, h4, h5, h6, h7, h8, h9, h10⟩ := h
  exact ⟨A, c, B, d, C, e, g, A0, c0, C0, d0, A1, c1, C1, d1, rfl, row_mid h1 hm hb, row_mid h2 hm hb, row_mid h3 hm hb, h4, (hm.2.2.2.2 g h5.lt (.inr (Nat.le_trans hb h4))).trans h5, row_mid h6 hm hb, row_mid h7 hm hb, row_mid h8 hm hb, row_mid h9 hm hb, h10⟩
theorem VolQ.below {u u' : World} {base : Nat} {o : Option VolN} {v : Value} (h : VolQ u base o v) (hb : Below u.heap.size u u') : VolQ u' base o v := by
  cases o with
  | none => exact h
  | some x => exact VolO.below h hb
end Go.Proofs.YteoijmejhdocdaaGreatDoor.Mx

import Derived.Test.YtodmponjjhokdaaGreatG26
import Derived.Test.YtodmponjjhokdaaGreatG29
import Derived.Test.YtodmponjjhokdaaGreatG27
namespace Go.Proofs.YtodmponjjhokdaaGreat.Mx
open Go.ChangeShapes Go.WideShapes Go.ChangeAt Go.RowKit
set_option linter.unusedVariables false
theorem wrap_i64 (n : Int) : I64 (IntKind.i64.wrap n) := by
 rw [IntKind.wrap_i64]
 unfold I64; omega
theorem roll_i64 (key : Int) (l : List Int) (h : 1 ≤ key) (h1 : key ≤ 1000000) : I64 (roll 131 2147483647 (7 + key) l * 2147483648 + roll 137 2147483629 (11 + 2 * key) l) := by
 have a := roll_bd 131 2147483647 (7 + key) l (by omega) (by omega) (by omega)
 have b := roll_bd 137 2147483629 (11 + 2 * key) l (by omega) (by omega) (by omega)
 unfold I64; omega
theorem mixOf_i64 (key : Int) (l : List Int) : I64 (mixOf key l) := by
 unfold mixOf
 split
 ·rename_i h; exact roll_i64 key l h.1.1 h.1.2
 ·unfold I64; omega
theorem macOf_i64 (key : Int) (l : List Int) (count : Int) (L : List Tru) : I64 (macOf key l count L) := by
 unfold macOf
 split
 ·exact mixOf_i64 _ _
 ·unfold I64; omega
theorem TrusI.nil : TrusI [] := fun i hi => by simp at hi
theorem sealN_fine (key : Int) (l : List Int) (cnt : Int) (L : List Tru) (hL : TrusI L) (h4 : L.length ≤ 4) : (sealN key l cnt L).2.1.length ≤ 4 ∧ TrusI (sealN key l cnt L).2.1 ∧ I64 (sealN key l cnt L).1 ∧ I64 (sealN key l cnt L).2.2 := by
 unfold sealN
 split
 ·rename_i h; exact ⟨h4, hL, by unfold I64; simp only []; omega, macOf_i64 _ _ _ _⟩
 ·exact ⟨by simp, TrusI.nil, by unfold I64; simp only []; omega, by unfold I64; simp only []; omega⟩
theorem VolN.Inv.slotN {x : VolN} (h : x.Inv) (stage : Int) : (slotN x stage).Inv x.key x.counts := by
 have hl := h.2.1.2.1
 have h4 := h.1.2.1.2
 obtain ⟨a, b, c, d⟩ := sealN_fine x.key x.counts (x.count + 1) x.trusts h.2.1.i64 (by omega)
 refine ⟨.inr h.2.2.1, a, b, c, ?_⟩
 unfold Mx.slotN
 simp only []
 split
 ·exact ⟨by decide, by decide⟩
 ·exact d
theorem saveVol_inv {x : VolN} (h : x.Inv) (stage : Int) : (saveVol x stage).1.Inv := by
 unfold saveVol
 split
 ·exact h
 ·split
  ·exact h
  ·split
   ·exact h
   ·rename_i h1 h2 h3
    have hs := h.slotN stage
    obtain ⟨a, b, c, d, e, f⟩ := h
    unfold savePut
    split
    ·exact ⟨a, b, c, by simp only []; split <;> omega, hs, f⟩
    ·exact ⟨a, b, c, by simp only []; split <;> omega, e, hs⟩
theorem trustsOk_fail {key : Int} {l : List Int} {L : List Tru} (h : trustsOk key l L) : trustsOk key l (L.map failT) := by
 refine ⟨h.1, by rw [List.length_map]; exact h.2.1, fun i hi => ?_⟩
 rw [List.length_map] at hi
 have e : (L.map failT).getD i default = failT (L.getD i default) := by
  rw [List.getD_eq_getElem?_getD, List.getD_eq_getElem?_getD, List.getElem?_map, List.getElem?_eq_getElem hi]; rfl
 rw [e]
 exact h.2.2 i hi
theorem chosenOf_right {key : Int} {l : List Int} {S : List SlN} {n : Int} {k : Nat} (h : chosenOf key l S n = k) : k < S.length ∧ choiceB key l n (S.getD k default) = true := by
 unfold chosenOf at h
 split at h
 ·rename_i hlt
  have e : S.findIdx (choiceB key l n) = k := by omega
  refine ⟨by omega, ?_⟩
  have := List.findIdx_getElem (w := hlt)
  rw [List.getD_eq_getElem?_getD, List.getElem?_eq_getElem (by omega)]
  simp only [Option.getD_some]
  simpa [e] using this
 ·omega
theorem choice_ok {key : Int} {l : List Int} {n : Int} {s : SlN} (h : choiceB key l n s = true) : trustsOk key l s.trusts ∧ cellsOk key l s.cells := by
 unfold choiceB slotB sealB trustsB cellsB at h
 simp only [Bool.and_eq_true, decide_eq_true_eq] at h
 exact ⟨h.1.1.1.1, h.1.2⟩
theorem fallVol_inv {x : VolN} (h : x.Inv) : (fallVol x).1.Inv := by
 have hch := chosenOf_two x.key x.counts x.s0 x.s1 x.count
 obtain ⟨a, b, c, d, e, f⟩ := h
 unfold fallVol
 split
 ·exact ⟨a, trustsOk_fail b, c, d, e, f⟩
 ·split
  ·rename_i h1 h0
   obtain ⟨-, hk⟩ := chosenOf_right (k := 0) (by rw [h0]; rfl)
   obtain ⟨p, q⟩ := choice_ok hk
   exact ⟨a, p, q, d, e, f⟩
  ·rename_i h1 h0
   obtain ⟨-, hk⟩ := chosenOf_right (key := x.key) (l := x.counts) (S := [x.s0, x.s1]) (n := x.count) (k := 1) (by rcases hch with hc | hc | hc <;> omega)
   obtain ⟨p, q⟩ := choice_ok hk
   exact ⟨a, p, q, d, e, f⟩
theorem spoilVol_inv {x : VolN} (h : x.Inv) (slot : Int) : (spoilVol x slot).1.Inv := by
 obtain ⟨a, b, c, d, e, f⟩ := h
 unfold spoilVol
 split
 ·exact ⟨a, b, c, d, ⟨e.1, e.2.1, e.2.2.1, e.2.2.2.1, wrap_i64 _⟩, f⟩
 ·split
  ·exact ⟨a, b, c, d, e, ⟨f.1, f.2.1, f.2.2.1, f.2.2.2.1, wrap_i64 _⟩⟩
  ·exact ⟨a, b, c, d, e, f⟩
theorem bendVol_inv {x : VolN} (h : x.Inv) (a c0 c1 : Int) : (bendVol x a c0 c1).1.Inv := by
 unfold bendVol
 split
 ·rename_i hc
  obtain ⟨p, q, r, s, t, u⟩ := h
  exact ⟨p, q, cellsOk_set r hc.2, s, t, u⟩
 ·exact h
theorem replayVol_inv {x : VolN} (h : x.Inv) (a slot : Int) : (replayVol x a slot).1.Inv := by
 unfold replayVol
 split
 ·split
  ·exact bendVol_inv h _ _ _
  ·exact h
 ·split
  ·split
   ·exact bendVol_inv h _ _ _
   ·exact h
  ·exact h
theorem VolN.Inv.pos {x : VolN} (h : x.Inv) : 0 < x.trusts.length := by
 have a := h.1.2.1.1
 have b := h.2.1.2.1
 omega
end Go.Proofs.YtodmponjjhokdaaGreat.Mx
namespace Go.Proofs.YtodmponjjhokdaaGreat.Mx
open Go.ChangeShapes Go.WideShapes Go.ChangeAt Go.RowKit
set_option linter.unusedVariables false
theorem sumAll_sum {key : Int} : ∀ (L : List Tri) (s : Int), isSumP s → (∀ x ∈ L, isSumP (tagOf key x.1 x.2.1 x.2.2)) → isSumP (sumAll key s L) := by
 intro L
 induction L with
 | nil => intro s h _; exact h
 | cons a L ih =>
   intro s h hL
   exact ih _ (addOf_sum h (hL a (List.mem_cons_self ..))) (fun x hx => hL x (List.mem_cons_of_mem _ hx))
theorem cellsNew_ok {key f : Int} {n : Nat} (hk : isKey key) (h0 : 0 ≤ f) (h1 : f + n ≤ 24) (hn : n ≤ 8) : (∀ c ∈ cellsNew key f n, isCell c.1 c.2) ∧ ∀ x ∈ trisNew key f n, isSumP (tagOf key x.1 x.2.1 x.2.2) := by
 have key1 : ∀ i : Nat, i < n → isAt (f + i) ∧ isCell (cellOf key (f + i) (i + 1) 0).1 (cellOf key (f + i) (i + 1) 0).2 := by
  intro i hi
  have ha : isAt (f + i) := ⟨by omega, by omega⟩
  exact ⟨ha, cellOf_cell hk ha ⟨by omega, by omega⟩ ⟨by decide, by decide⟩⟩
 constructor
 ·intro c hc
  unfold cellsNew at hc
  obtain ⟨i, hi, rfl⟩ := List.mem_map.1 hc
  exact (key1 i (List.mem_range.1 hi)).2
 ·intro x hx
  unfold trisNew at hx
  obtain ⟨i, hi, rfl⟩ := List.mem_map.1 hx
  obtain ⟨ha, hc⟩ := key1 i (List.mem_range.1 hi)
  exact tripleIn_tag hk ha hc
theorem region_bd {key : Int} {l : List Int} (hp : planOk key l) {r : Nat} (hr : r < l.length) : 0 ≤ upTo l r ∧ upTo l r + (l.getD r 0).toNat ≤ 24 ∧ (l.getD r 0).toNat ≤ 8 ∧ 1 ≤ l.getD r 0 := by
 have a := upTo_bd hp.2.2.1 (k := r) (by omega)
 have b := upTo_succ l hr
 have c := upTo_mono hp.2.2.1 (i := r + 1) (j := l.length) (by omega) (Nat.le_refl _)
 have d := hp.2.2.2
 have e := hp.2.2.1 r hr
 omega
theorem newTru_ok {key : Int} {l : List Int} (hp : planOk key l) {r : Nat} (hr : r < l.length) : trustOk key l r (newTru key l r) := by
 obtain ⟨a, b, c, d⟩ := region_bd hp hr
 have z : isSumP 0 := by unfold isSumP; omega
 refine ⟨hp, ⟨by omega, by omega⟩, ?_, ⟨?_, ?_⟩, ⟨?_, ?_⟩, fun _ => ⟨rfl, rfl⟩, z, ?_, z, z⟩
 ·unfold isTm newTru; simp only []; omega
 ·exact Int.le_refl _
 ·show (0 : Int) ≤ 1000; decide
 ·exact Int.le_refl _
 ·show (0 : Int) ≤ l.getD ((r : Int)).toNat 0 - 1
  rw [Int.toNat_natCast]; omega
 ·show isSumP (sumOf key (trisNew key (upTo l r) (l.getD r 0).toNat))
  unfold sumOf
  rw [if_pos (show 1 ≤ key ∧ key ≤ 1000000 from hp.1)]
  exact sumAll_sum _ 0 z (cellsNew_ok hp.1 a (by omega) c).2
theorem getD_memd {α : Type} [Inhabited α] {L : List α} {i : Nat} (h : i < L.length) : L.getD i default ∈ L := by
 rw [List.getD_eq_getElem?_getD, List.getElem?_eq_getElem h]; exact List.getElem_mem h
theorem newCels_ok {key : Int} {l : List Int} (hp : planOk key l) : cellsOk key l (newCels key l l.length) := by
 refine ⟨fun i hi => ?_, ?_⟩
 ·have hm := getD_memd hi
  unfold newCels at hm
  obtain ⟨r, hr, hc⟩ := List.mem_flatMap.1 hm
  have hr' := List.mem_range.1 hr
  obtain ⟨a, b, c, d⟩ := region_bd hp hr'
  exact (cellsNew_ok hp.1 a (by omega) c).1 _ hc
 ·rw [newCels_len hp.2.2.1 _ (Nat.le_refl _)]
  unfold sectorsOf
  rw [if_pos hp]
theorem newTrus_ok {key : Int} {l : List Int} (hp : planOk key l) : trustsOk key l (newTrus key l l.length) := by
 refine ⟨hp, newTrus_len _ _ _, fun i hi => ?_⟩
 rw [newTrus_len] at hi
 rw [newTrus_get key l hi]
 exact newTru_ok hp hi
theorem formatVol_inv {key : Int} {l : List Int} (hp : planOk key l) : (formatVol key l).Inv := by
 have hT := newTrus_ok hp
 have hC := newCels_ok hp
 have h4 := hp.2.1.2
 obtain ⟨a, b, c, d⟩ := sealN_fine key l 1 (newTrus key l l.length) hT.i64 (by rw [newTrus_len]; exact h4)
 exact ⟨hp, hT, hC, (show (0 : Int) ≤ 1 ∧ (1 : Int) ≤ 10000 by decide), ⟨.inl rfl, by simp [formatVol], TrusI.nil, (show I64 0 from ⟨by decide, by decide⟩), (show I64 0 from ⟨by decide, by decide⟩)⟩, ⟨.inr hC, a, b, c, d⟩⟩
end Go.Proofs.YtodmponjjhokdaaGreat.Mx
namespace Go.Proofs.YtodmponjjhokdaaGreat.Mx
open Go.ChangeShapes Go.WideShapes Go.ChangeAt Go.RowKit
set_option linter.unusedVariables false
noncomputable def fall14 (x : VolN) (stage : Int) : VolN × Int × Int :=
 if (saveVol x stage).2 = 0 then ((fallVol (saveVol x stage).1).1, (fallVol (saveVol x stage).1).2, 0) else ((saveVol x stage).1, (saveVol x stage).2, 0)
theorem fall14_inv {x : VolN} (h : x.Inv) (stage : Int) : (fall14 x stage).1.Inv := by
 unfold fall14
 split
 ·exact fallVol_inv (saveVol_inv h stage)
 ·exact saveVol_inv h stage
theorem l13Save_r (x : VolN) (v : Value) (w : World) (h : x.Inv) (hv : VolR w w.heap.size x v) (stage : Int) : Calls Tryz.prog 69 #[v, .int .i64 stage] w (VolAns1 w (saveVol x stage)) := l13Save_calls x v w h.short hv h.2.1.i64 h.2.2.2.1.1 stage
theorem l13Fall_r (x : VolN) (v : Value) (w : World) (h : x.Inv) (hv : VolR w w.heap.size x v) : Calls Tryz.prog 90 #[v] w (VolAns1 w (fallVol x)) := l13Fall_calls x v w h.short (h.2.2.2.2.1.fits h.1) (h.2.2.2.2.2.fits h.1) h.pos hv
theorem l13Spoil_r (x : VolN) (v : Value) (w : World) (h : x.Inv) (hv : VolR w w.heap.size x v) (slot : Int) : Calls Tryz.prog 73 #[v, .int .i64 slot] w (VolAns1 w (spoilVol x slot)) := l13Spoil_calls x v slot w h.short hv
theorem l14Bend_r (x : VolN) (v : Value) (w : World) (h : x.Inv) (hv : VolR w w.heap.size x v) (a c0 c1 : Int) : Calls Tryz.prog 71 #[v, .int .i64 a, .agg #[.int .i64 c0, .int .i64 c1]] w (VolAnsA w (bendVol x a c0 c1)) := l14Bend_calls x v w h.short hv h.fit a c0 c1
theorem l14Replay_r (x : VolN) (v : Value) (w : World) (h : x.Inv) (hv : VolR w w.heap.size x v) (a slot : Int) : Calls Tryz.prog 72 #[v, .int .i64 a, .int .i64 slot] w (VolAnsA w (replayVol x a slot)) := l14Replay_calls x v w h.short hv h.fit a slot
theorem l12Touch_r (x : VolN) (v : Value) (w : World) (h : x.Inv) (hv : VolR w w.heap.size x v) (a value : Int) (ha : I64 a) : Calls Tryz.prog 65 #[v, .int .i64 a, .int .i64 value] w (VolAns w (touchVol x a value)) := by
 obtain ⟨A, cap, B, tc, C, cc, b, off, sc, rfl, hA, hB, hC, hbb, h0, h1, hcap⟩ := hv
 exact l12Touch_calls x A cap B tc C cc b off sc w h.short hcap hA hB hC hbb h0 h1 h.fit a value ha
theorem l12Write_r (x : VolN) (v : Value) (w : World) (h : x.Inv) (hv : VolR w w.heap.size x v) (a value : Int) (ha : I64 a) : Calls Tryz.prog 66 #[v, .int .i64 a, .int .i64 value] w (VolAns w (writeVol x a value)) := by
 obtain ⟨A, cap, B, tc, C, cc, b, off, sc, rfl, hA, hB, hC, hbb, h0, h1, hcap⟩ := hv
 exact l12Write_calls x A cap B tc C cc b off sc w h.short hcap hA hB hC hbb h0 h1 h.fit a value ha
theorem l12Step_r (x : VolN) (v : Value) (w : World) (h : x.Inv) (hv : VolR w w.heap.size x v) (r : Int) : Calls Tryz.prog 67 #[v, .int .i64 r] w (VolAns1 w (stepVol x r)) := by
 obtain ⟨A, cap, B, tc, C, cc, b, off, sc, rfl, hA, hB, hC, hbb, h0, h1, hcap⟩ := hv
 exact l12Step_calls x A cap B tc C cc b off sc w h.short hcap hA hB hC hbb h0 h1 h.fit h.cur r
theorem l12Close_r (x : VolN) (v : Value) (w : World) (h : x.Inv) (hv : VolR w w.heap.size x v) (r : Int) (hr0 : 0 ≤ r) (hr : r < x.counts.length) : Calls Tryz.prog 68 #[v, .int .i64 r] w (VolAns1 w (closeVol x r)) := by
 obtain ⟨A, cap, B, tc, C, cc, b, off, sc, rfl, hA, hB, hC, hbb, h0, h1, hcap⟩ := hv
 exact l12Close_calls x A cap B tc C cc b off sc w h.short hcap hA hB hC hbb h0 h1 h.fit h.cur r hr0 hr
set_option maxRecDepth 20000 in
set_option maxHeartbeats 4000000 in
theorem l14Fall_r (x : VolN) (v : Value) (w : World) (h : x.Inv) (hv : VolR w w.heap.size x v) (stage : Int) : Calls Tryz.prog 70 #[v, .int .i64 stage] w (VolAnsA w (fall14 x stage)) := by
 have S0 := fun (u : World) (hb : Below w.heap.size w u) => l13Save_r x v u h (hv.grow hb) stage
 obtain ⟨A, cap, B, tc, C, cc, b, off, sc, rfl, hA, hB, hC, hbb, h0, h1, hcap⟩ := hv
 have K0 := Lib.hid (show Kept w [(w.heap.size + 1 + 1, 83, #[.int .i64 0, .int .i64 0]), (w.heap.size + 1, 68, #[.int .i64 0, .slice none 0 0, .slice none 0 0, .slice none 0 0, .slice none 0 0, .int .i64 0]), (w.heap.size, 68, #[.int .i64 x.key, .slice A x.counts.length cap, .slice B x.trusts.length tc, .slice C x.cells.length cc, .slice (some ⟨b, off, none⟩) 2 sc, .int .i64 x.count])] _ from ((((Kept.refl w).put1 _ _ #[.int .i64 x.key, .slice A x.counts.length cap, .slice B x.trusts.length tc, .slice C x.cells.length cc, .slice (some ⟨b, off, none⟩) 2 sc, .int .i64 x.count] rfl).put1 _ _ #[.int .i64 0, .slice none 0 0, .slice none 0 0, .slice none 0 0, .slice none 0 0, .int .i64 0] (by simp)).put1 _ _ #[.int .i64 0, .int .i64 0] (by simp)))
 have hyI := saveVol_inv h stage
 unfold fall14
 generalize saveVol x stage = Y at S0 hyI ⊢
 obtain ⟨y, k⟩ := Y
 simp only [] at S0 hyI ⊢
 have SO := Lib.hid S0
 have HI := Lib.hid hyI
 clear hA hB hC h0 h1 S0 hyI h
 by_cases hk0 : k = 0
 ·subst hk0; rw [if_pos rfl]
  have F0 := fun (v : Value) (u : World) (hv : VolR u u.heap.size y v) => l13Fall_r y v u HI.out hv
  generalize fallVol y = Z at F0 ⊢
  obtain ⟨z, k3⟩ := Z
  have FO := Lib.hid F0
  clear F0
  go_enter Tryz.func70, Tryz.ntmps70
  go_wp2_with fail
  refine (SO.out _ K0.out.1).mono ?_; rintro e u1 ⟨cs, rfl, hv, hb1⟩
  obtain ⟨A', c', B', d', C', e', b', o', s', e1, -⟩ := hv.reads
  injection e1 with e1; subst e1
  have hk1 := K0.out.below hb1
  have hv1 := hv.mono (show w.heap.size + 1 + 1 + 1 ≤ _ by simp)
  have lo0 : w.heap.size + 1 + 1 < u1.heap.size := hk1.lt (x := (w.heap.size + 1 + 1, 83, #[.int .i64 0, .int .i64 0])) (by simp)
  have lo1 : w.heap.size + 1 < u1.heap.size := hk1.lt (x := (w.heap.size + 1, 68, #[.int .i64 0, .slice none 0 0, .slice none 0 0, .slice none 0 0, .slice none 0 0, .int .i64 0])) (by simp)
  have lo2 : w.heap.size < u1.heap.size := hk1.lt (x := (w.heap.size, 68, #[.int .i64 x.key, .slice A x.counts.length cap, .slice B x.trusts.length tc, .slice C x.cells.length cc, .slice (some ⟨b, off, none⟩) 2 sc, .int .i64 x.count])) (by simp)
  have hk2 := hk1.put1 u1.heap.size 68 #[.int .i64 y.key, .slice A' y.counts.length c', .slice B' y.trusts.length d', .slice C' y.cells.length e', .slice (some ⟨b', o', none⟩) 2 s', .int .i64 y.count] rfl
  have hv2 := hv1.below ((Below.refl _ _).alloc (Nat.le_refl _) (.cells #[.int .i64 y.key, .slice A' y.counts.length c', .slice B' y.trusts.length d', .slice C' y.cells.length e', .slice (some ⟨b', o', none⟩) 2 s', .int .i64 y.count] 68))
  clear hb1 hk1 hv hv1 SO
  go_upto_region 2 with fail
  generalize World.alloc u1 _ = u2 at hk2 hv2 ⊢
  obtain ⟨kc0, kf0, kc1, kf1, kc2, kf2, kc3, kf3, -⟩ := hk2.rd
  have HV := Lib.hid hv2
  have KK := Lib.hid hk2
  clear hv2
  clear hk2
  go_wp2_with fail
  refine (FO.out _ _ HV.out.reads).mono ?_; rintro e u3 ⟨cs3, rfl, hv3, hb3⟩
  obtain ⟨A6, c6, B6, n6, C6, e6, b6, o6, s6, e1, -⟩ := hv3.reads
  injection e1 with e1; subst e1
  have hk3 := KK.out.below hb3
  have lu2 := KK.out.1.size
  have lp0 : w.heap.size + 1 + 1 < u2.heap.size := KK.out.lt (x := (w.heap.size + 1 + 1, 83, #[.int .i64 0, .int .i64 0])) (by simp)
  have lp1 : w.heap.size + 1 < u2.heap.size := KK.out.lt (x := (w.heap.size + 1, 68, #[.int .i64 0, .slice none 0 0, .slice none 0 0, .slice none 0 0, .slice none 0 0, .int .i64 0])) (by simp)
  have lp2 : w.heap.size < u2.heap.size := KK.out.lt (x := (w.heap.size, 68, #[.int .i64 x.key, .slice A x.counts.length cap, .slice B x.trusts.length tc, .slice C x.cells.length cc, .slice (some ⟨b, off, none⟩) 2 sc, .int .i64 x.count])) (by simp)
  have hk4 := hk3.put1 u3.heap.size 68 #[.int .i64 z.key, .slice A6 z.counts.length c6, .slice B6 z.trusts.length n6, .slice C6 z.cells.length e6, .slice (some ⟨b6, o6, none⟩) 2 s6, .int .i64 z.count] rfl
  have hv4 := hv3.below ((Below.refl _ _).alloc (Nat.le_refl _) (.cells #[.int .i64 z.key, .slice A6 z.counts.length c6, .slice B6 z.trusts.length n6, .slice C6 z.cells.length e6, .slice (some ⟨b6, o6, none⟩) 2 s6, .int .i64 z.count] 68))
  clear hb3 hk3 hv3 HV KK kc0 kf0 kc1 kf1 kc2 kf2 kc3 kf3
  go_upto_region 5 with fail
  generalize World.alloc u3 _ = u4 at hk4 hv4 ⊢
  obtain ⟨kc0, kf0, kc1, kf1, kc2, kf2, kc3, kf3, kc4, kf4, -⟩ := hk4.rd
  have HV := Lib.hid hv4
  have KK := Lib.hid hk4
  clear hv4 hk4
  go_wp2_with fail
  obtain ⟨w9, e9, ⟨d0, d1, d2, d3, d4, d5⟩, ⟨f0, f1⟩, hb9, hv9⟩ := ans_end (w := w) (x0 := .int .i64 z.key) (x1 := .slice A6 z.counts.length c6) (x2 := .slice B6 z.trusts.length n6) (x3 := .slice C6 z.cells.length e6) (x4 := .slice (some ⟨b6, o6, none⟩) 2 s6) (x5 := .int .i64 z.count) (a0 := .int .i64 k3) (a1 := .int .i64 0) (KK.out.at_ (p := w.heap.size + 1) (t := 68) (cs := #[.int .i64 0, .slice none 0 0, .slice none 0 0, .slice none 0 0, .slice none 0 0, .int .i64 0]) (by simp)) (KK.out.at_ (p := w.heap.size + 1 + 1) (t := 83) (cs := #[.int .i64 0, .int .i64 0]) (by simp)) (by omega) KK.out.1 (by omega) (by omega)
  rw [e9]
  exact bodyPost_ret (v := .tuple #[.agg #[.int .i64 z.key, .slice A6 z.counts.length c6, .slice B6 z.trusts.length n6, .slice C6 z.cells.length e6, .slice (some ⟨b6, o6, none⟩) 2 s6, .int .i64 z.count], .agg #[.int .i64 k3, .int .i64 0]]) (by simp [results, Tryz.results70, go_sem, d0, d1, d2, d3, d4, d5, f0, f1]) rfl ⟨_, rfl, (hv9 _ _ _ (by omega) (by omega) HV.out).mono (by omega), hb9⟩
 ·rw [if_neg hk0]; have hkb : (k != 0) = true := by simpa using hk0
  clear hk0
  go_enter Tryz.func70, Tryz.ntmps70
  go_wp2_with fail
  refine (SO.out _ K0.out.1).mono ?_; rintro e u1 ⟨cs, rfl, hv, hb1⟩
  obtain ⟨A', c', B', d', C', e', b', o', s', e1, -⟩ := hv.reads
  injection e1 with e1; subst e1
  have hk1 := K0.out.below hb1
  have hv1 := hv.mono (show w.heap.size + 1 + 1 + 1 ≤ _ by simp)
  have lo0 : w.heap.size + 1 + 1 < u1.heap.size := hk1.lt (x := (w.heap.size + 1 + 1, 83, #[.int .i64 0, .int .i64 0])) (by simp)
  have lo1 : w.heap.size + 1 < u1.heap.size := hk1.lt (x := (w.heap.size + 1, 68, #[.int .i64 0, .slice none 0 0, .slice none 0 0, .slice none 0 0, .slice none 0 0, .int .i64 0])) (by simp)
  have lo2 : w.heap.size < u1.heap.size := hk1.lt (x := (w.heap.size, 68, #[.int .i64 x.key, .slice A x.counts.length cap, .slice B x.trusts.length tc, .slice C x.cells.length cc, .slice (some ⟨b, off, none⟩) 2 sc, .int .i64 x.count])) (by simp)
  have hk2 := hk1.put1 u1.heap.size 68 #[.int .i64 y.key, .slice A' y.counts.length c', .slice B' y.trusts.length d', .slice C' y.cells.length e', .slice (some ⟨b', o', none⟩) 2 s', .int .i64 y.count] rfl
  have hv2 := hv1.below ((Below.refl _ _).alloc (Nat.le_refl _) (.cells #[.int .i64 y.key, .slice A' y.counts.length c', .slice B' y.trusts.length d', .slice C' y.cells.length e', .slice (some ⟨b', o', none⟩) 2 s', .int .i64 y.count] 68))
  clear hb1 hk1 hv hv1 SO
  go_upto_region 2 with fail
  generalize World.alloc u1 _ = u2 at hk2 hv2 ⊢
  obtain ⟨kc0, kf0, kc1, kf1, kc2, kf2, kc3, kf3, -⟩ := hk2.rd
  have HV := Lib.hid hv2
  have KK := Lib.hid hk2
  clear hv2
  clear hk2
  go_wp2_with fail
  obtain ⟨w9, e9, ⟨d0, d1, d2, d3, d4, d5⟩, ⟨f0, f1⟩, hb9, hv9⟩ := ans_end (w := w) (x0 := .int .i64 y.key) (x1 := .slice A' y.counts.length c') (x2 := .slice B' y.trusts.length d') (x3 := .slice C' y.cells.length e') (x4 := .slice (some ⟨b', o', none⟩) 2 s') (x5 := .int .i64 y.count) (a0 := .int .i64 k) (a1 := .int .i64 0) (KK.out.at_ (p := w.heap.size + 1) (t := 68) (cs := #[.int .i64 0, .slice none 0 0, .slice none 0 0, .slice none 0 0, .slice none 0 0, .int .i64 0]) (by simp)) (KK.out.at_ (p := w.heap.size + 1 + 1) (t := 83) (cs := #[.int .i64 0, .int .i64 0]) (by simp)) (by omega) KK.out.1 (by omega) (by omega)
  rw [e9]
  exact bodyPost_ret (v := .tuple #[.agg #[.int .i64 y.key, .slice A' y.counts.length c', .slice B' y.trusts.length d', .slice C' y.cells.length e', .slice (some ⟨b', o', none⟩) 2 s', .int .i64 y.count], .agg #[.int .i64 k, .int .i64 0]]) (by simp [results, Tryz.results70, go_sem, d0, d1, d2, d3, d4, d5, f0, f1]) rfl ⟨_, rfl, (hv9 _ _ _ (by omega) (by omega) HV.out).mono (by omega), hb9⟩
end Go.Proofs.YtodmponjjhokdaaGreat.Mx

import Derived.Test.YteoijmejhdocdaaGreatDoorG25
import Derived.Test.YteoijmejhdocdaaGreatDoorG15
import Derived.Test.YteoijmejhdocdaaGreatDoorG24
namespace Go.Proofs.YteoijmejhdocdaaGreatDoor.Mx
open Go.ChangeShapes Go.WideShapes Go.ChangeAt Go.RowKit
set_option linter.unusedVariables false
theorem wrap_i64 (n : Int) : I64 (IntKind.i64.wrap n) := by
  rw [IntKind.wrap_i64]
  unfold I64; omega
theorem roll_i64 (key : Int) (l : List Int) (h : 1 ≤ key) (h1 : key ≤ 1000000) : I64 (roll 131 2147483647 (7 + key) l * 2147483648 + roll 137 2147483629 (11 + 2 * key) l) := by
  have a := roll_bd 131 2147483647 (7 + key) l (by omega) (by omega) (by omega)
  have b := roll_bd 137 2147483629 (11 + 2 * key) l (by omega) (by omega) (by omega)
  unfold I64; omega
theorem mixOf_i64 (key : Int) (l : List Int) : I64 (mixOf key l) := by
  unfold mixOf
  split
  · rename_i h; exact roll_i64 key l h.1.1 h.1.2
  · unfold I64; omega
theorem macOf_i64 (key : Int) (l : List Int) (count : Int) (L : List Tru) : I64 (macOf key l count L) := by
  unfold macOf
  split
  · exact mixOf_i64 _ _
  · unfold I64; omega
theorem TrusI.nil : TrusI [] := fun i hi => by simp at hi
theorem sealN_fine (key : Int) (l : List Int) (cnt : Int) (L : List Tru) (hL : TrusI L) (h4 : L.length ≤ 4) : (sealN key l cnt L).2.1.length ≤ 4 ∧ TrusI (sealN key l cnt L).2.1 ∧ I64 (sealN key l cnt L).1 ∧ I64 (sealN key l cnt L).2.2 := by
  unfold sealN
  split
  · rename_i h; exact ⟨h4, hL, by unfold I64; simp only []; omega, macOf_i64 _ _ _ _⟩
  · exact ⟨by simp, TrusI.nil, by unfold I64; simp only []; omega, by unfold I64; simp only []; omega⟩
theorem VolN.Inv.slotN {x : VolN} (h : x.Inv) (stage : Int) : (slotN x stage).Inv x.key x.counts := by
  have hl := h.2.1.2.1
  have h4 := h.1.2.1.2
  obtain ⟨a, b, c, d⟩ := sealN_fine x.key x.counts (x.count + 1) x.trusts h.2.1.i64 (by omega)
  refine ⟨.inr h.2.2.1, a, b, c, ?_⟩
  unfold Mx.slotN
  simp only []
  split
  · exact ⟨by decide, by decide⟩
  · exact d
theorem saveVol_inv {x : VolN} (h : x.Inv) (stage : Int) : (saveVol x stage).1.Inv := by
  unfold saveVol
  split
  · exact h
  · split
    · exact h
    · split
      · exact h
      · rename_i h1 h2 h3
        have hs := h.slotN stage
        obtain ⟨a, b, c, d, e, f⟩ := h
        unfold savePut
        split
        · exact ⟨a, b, c, by simp only []; split <;> omega, hs, f⟩
        · exact ⟨a, b, c, by simp only []; split <;> omega, e, hs⟩
theorem trustsOk_fail {key : Int} {l : List Int} {L : List Tru} (h : trustsOk key l L) : trustsOk key l (L.map failT) := by
  refine ⟨h.1, by rw [List.length_map]; exact h.2.1, fun i hi => ?_⟩
  rw [List.length_map] at hi
  have e : (L.map failT).getD i default = failT (L.getD i default) := by
    rw [List.getD_eq_getElem?_getD, List.getD_eq_getElem?_getD, List.getElem?_map, List.getElem?_eq_getElem hi]; rfl
  rw [e]
  exact h.2.2 i hi
theorem chosenOf_right {key : Int} {l : List Int} {S : List SlN} {n : Int} {k : Nat} (h : chosenOf key l S n = k) : k < S.length ∧ choiceB key l n (S.getD k default) = true := by
  unfold chosenOf at h
  split at h
  · rename_i hlt
    have e : S.findIdx (choiceB key l n) = k := by omega
    refine ⟨by omega, ?_⟩
    have := List.findIdx_getElem (w := hlt)
    rw [List.getD_eq_getElem?_getD, List.getElem?_eq_getElem (by omega)]
    simp only [Option.getD_some]
    simpa [e] using this
  · omega
theorem choice_ok {key : Int} {l : List Int} {n : Int} {s : SlN} (h : choiceB key l n s = true) : trustsOk key l s.trusts ∧ cellsOk key l s.cells := by
  unfold choiceB slotB sealB trustsB cellsB at h
  simp only [Bool.and_eq_true, decide_eq_true_eq] at h
  exact ⟨h.1.1.1.1, h.1.2⟩
theorem fallVol_inv {x : VolN} (h : x.Inv) : (fallVol x).1.Inv := by
  have hch := chosenOf_two x.key x.counts x.s0 x.s1 x.count
  obtain ⟨a, b, c, d, e, f⟩ := h
  unfold fallVol
  split
  · exact ⟨a, trustsOk_fail b, c, d, e, f⟩
  · split
    · rename_i h1 h0
      obtain ⟨-, hk⟩ := chosenOf_right (k := 0) (by rw [h0]; rfl)
      obtain ⟨p, q⟩ := choice_ok hk
      exact ⟨a, p, q, d, e, f⟩
    · rename_i h1 h0
      obtain ⟨-, hk⟩ := chosenOf_right (key := x.key) (l := x.counts) (S := [x.s0, x.s1]) (n := x.count) (k := 1) (by rcases hch with hc | hc | hc <;> omega)
      obtain ⟨p, q⟩ := choice_ok hk
      exact ⟨a, p, q, d, e, f⟩
theorem spoilVol_inv {x : VolN} (h : x.Inv) (slot : Int) : (spoilVol x slot).1.Inv := by
  obtain ⟨a, b, c, d, e, f⟩ := h
  unfold spoilVol
  split
  · exact ⟨a, b, c, d, ⟨e.1, e.2.1, e.2.2.1, e.2.2.2.1, wrap_i64 _⟩, f⟩
  · split
    · exact ⟨a, b, c, d, e, ⟨f.1, f.2.1, f.2.2.1, f.2.2.2.1, wrap_i64 _⟩⟩
    · exact ⟨a, b, c, d, e, f⟩
theorem VolN.Inv.pos {x : VolN} (h : x.Inv) : 0 < x.trusts.length := by
  have a := h.1.2.1.1
  have b := h.2.1.2.1
  omega
theorem l13Save_r (x : VolN) (v : Value) (w : World) (h : x.Inv) (hv : VolR w w.heap.size x v) (stage : Int) : Calls Tryz.prog 88 #[v, .int .i64 stage] w (VolAns1 w (saveVol x stage)) := l13Save_calls x v w h.short hv h.2.1.i64 h.2.2.2.1.1 stage
theorem l13Fall_r (x : VolN) (v : Value) (w : World) (h : x.Inv) (hv : VolR w w.heap.size x v) : Calls Tryz.prog 93 #[v] w (VolAns1 w (fallVol x)) := l13Fall_calls x v w h.short (h.2.2.2.2.1.fits h.1) (h.2.2.2.2.2.fits h.1) h.pos hv
theorem l13Spoil_r (x : VolN) (v : Value) (w : World) (h : x.Inv) (hv : VolR w w.heap.size x v) (slot : Int) : Calls Tryz.prog 95 #[v, .int .i64 slot] w (VolAns1 w (spoilVol x slot)) := l13Spoil_calls x v slot w h.short hv
noncomputable def saveG (x : VolG) (a : Int) : Option VolN × Int := if x.okB then (some (saveVol x.toN a).1, (saveVol x.toN a).2) else (none, 1)
noncomputable def fallG (x : VolG)  : Option VolN × Int := if x.okB then (some (fallVol x.toN ).1, (fallVol x.toN ).2) else (none, 1)
noncomputable def spoilG (x : VolG) (a : Int) : Option VolN × Int := if x.okB then (some (spoilVol x.toN a).1, (spoilVol x.toN a).2) else (none, 1)
set_option maxRecDepth 20000 in
set_option maxHeartbeats 8000000 in
theorem savedToG_calls (x : VolG) (v : Value) (a : Int) (w : World) (hx : x.Short) (hi : x.Int64) (h : RdG w w.heap.size x v)  :
    Calls Tryz.prog 28 #[v, .int .i64 a] w (Ans2 w (saveG x a)) := by
  have VK := Lib.hid (fun (u : World) (hb : Below w.heap.size w u) => specVolumeOk_G x v u hx hi (h.grow hb))
  by_cases hok : x.okB = true
  · obtain ⟨h2, hinv⟩ := VolG.inv hi hok
    have he : saveG x a = (some (saveVol x.toN a).1, (saveVol x.toN a).2) := if_pos hok
    rw [he]
    rw [hok] at VK
    obtain ⟨A, c, B, d, C, e, b, off, s, rfl, i1, i2, i3, i4, i5, i6, i7⟩ := h.two h2
    generalize x.toN = y at *
    clear he h hok h2
    have K0 := Lib.hid (show Kept w [(w.heap.size + 1, 31, #[.int .i64 0, .slice none 0 0, .slice none 0 0, .slice none 0 0, .slice none 0 0, .int .i64 0]), (w.heap.size, 31, #[.int .i64 y.key, .slice A y.counts.length c, .slice B y.trusts.length d, .slice C y.cells.length e, .slice (some ⟨b, off, none⟩) 2 s, .int .i64 y.count])] _ from (((Kept.refl w).put1 _ _ #[.int .i64 y.key, .slice A y.counts.length c, .slice B y.trusts.length d, .slice C y.cells.length e, .slice (some ⟨b, off, none⟩) 2 s, .int .i64 y.count] rfl).put1 _ _ #[.int .i64 0, .slice none 0 0, .slice none 0 0, .slice none 0 0, .slice none 0 0, .int .i64 0] (by simp)))
    have TO := Lib.hid (fun (u : World) (hb : Below w.heap.size w u) => by
      obtain ⟨j1, j2, j3, j4, j5, j6⟩ := RdG.has (c := c) (d := d) (e := e) (s := s) ⟨i1, i2, i3, i4, i5, i6⟩ hb
      exact l13Save_r y _ u hinv ⟨A, c, B, d, C, e, b, off, s, rfl, j1, j2, j3, j4, j5, j6, i7⟩ a)
    obtain ⟨⟨z, p⟩, hz⟩ : ∃ Y, Y = saveVol y a := ⟨_, rfl⟩
    rw [← hz] at TO ⊢
    clear hz i1 i2 i3 i4 i5 i6 i7 hinv
    go_enter Tryz.func28, Tryz.ntmps28
    go_wp2_with fail
    obtain ⟨kc0, kf0, kc1, kf1, -⟩ := K0.out.rd
    go_wp2_with fail
    refine (VK.out _ K0.out.1).mono ?_; rintro e u1 ⟨rfl, hb1⟩
    have hk1 := K0.out.below hb1
    clear hb1 kc0 kf0 kc1 kf1 VK
    obtain ⟨kc0, kf0, kc1, kf1, -⟩ := hk1.rd
    go_wp2_with fail
    refine (TO.out _ hk1.1).mono ?_; rintro e u2 ⟨cs, rfl, hv1, hb1⟩
    obtain ⟨A', c', B', d', C', e', b', o', s', e1, -⟩ := hv1.reads
    injection e1 with e1
    subst e1
    have hk2 := hk1.below hb1
    have lo1 : w.heap.size + 1 < u1.heap.size := hk1.lt (x := (w.heap.size + 1, 31, #[.int .i64 0, .slice none 0 0, .slice none 0 0, .slice none 0 0, .slice none 0 0, .int .i64 0])) (by simp)
    have hv2 := hv1.mono (show w.heap.size + 1 + 1 ≤ _ by omega)
    have lo0 : w.heap.size + 1 < u2.heap.size := hk2.lt (x := (w.heap.size + 1, 31, #[.int .i64 0, .slice none 0 0, .slice none 0 0, .slice none 0 0, .slice none 0 0, .int .i64 0])) (by simp)
    clear hb1 hv1 kc0 kf0 kc1 kf1 TO hk1
    obtain ⟨kc0, kf0, kc1, kf1, -⟩ := hk2.rd
    have HV := Lib.hid hv2
    clear hv2
    go_wp2_with fail
    obtain ⟨w9, e9, ⟨d0, d1, d2, d3, d4, d5⟩, hb9, hg9⟩ := vol_end (w := w) (x0 := .int .i64 z.key) (x1 := .slice A' z.counts.length c') (x2 := .slice B' z.trusts.length d') (x3 := .slice C' z.cells.length e') (x4 := .slice (some ⟨b', o', none⟩) 2 s') (x5 := .int .i64 z.count) (hk2.at_ (p := w.heap.size + 1) (t := 31) (cs := #[.int .i64 0, .slice none 0 0, .slice none 0 0, .slice none 0 0, .slice none 0 0, .int .i64 0]) (by simp)) hk2.1 (by omega)
    rw [e9]
    exact bodyPost_ret (v := .tuple #[.agg #[.int .i64 z.key, .slice A' z.counts.length c', .slice B' z.trusts.length d', .slice C' z.cells.length e', (.slice (some ⟨b', o', none⟩) 2 s'), .int .i64 z.count], .int .i64 p]) (by simp [results, Tryz.results28, go_sem, d0, d1, d2, d3, d4, d5]) rfl ⟨_, rfl, (HV.out.out hg9 (by omega)).mono (by omega), hb9⟩
  · have he : saveG x a = (none, 1) := if_neg hok
    have hok' : x.okB = false := by simpa using hok
    rw [he]
    rw [hok'] at VK
    obtain ⟨A, c, B, d, C, e, E, s, rfl, -⟩ := h
    clear he hok hok'
    have K0 := Lib.hid (show Kept w [(w.heap.size + 1, 31, #[.int .i64 0, .slice none 0 0, .slice none 0 0, .slice none 0 0, .slice none 0 0, .int .i64 0]), (w.heap.size, 31, #[.int .i64 x.key, .slice A x.counts.length c, .slice B x.trusts.length d, .slice C x.cells.length e, .slice E x.slots.length s, .int .i64 x.count])] _ from (((Kept.refl w).put1 _ _ #[.int .i64 x.key, .slice A x.counts.length c, .slice B x.trusts.length d, .slice C x.cells.length e, .slice E x.slots.length s, .int .i64 x.count] rfl).put1 _ _ #[.int .i64 0, .slice none 0 0, .slice none 0 0, .slice none 0 0, .slice none 0 0, .int .i64 0] (by simp)))
    go_enter Tryz.func28, Tryz.ntmps28
    go_wp2_with fail
    obtain ⟨kc0, kf0, kc1, kf1, -⟩ := K0.out.rd
    go_wp2_with fail
    refine (VK.out _ K0.out.1).mono ?_; rintro e u1 ⟨rfl, hb1⟩
    have hk1 := K0.out.below hb1
    have lo0 : w.heap.size + 1 < u1.heap.size := hk1.lt (x := (w.heap.size + 1, 31, #[.int .i64 0, .slice none 0 0, .slice none 0 0, .slice none 0 0, .slice none 0 0, .int .i64 0])) (by simp)
    clear hb1 kc0 kf0 kc1 kf1 VK K0
    obtain ⟨kc0, kf0, kc1, kf1, -⟩ := hk1.rd
    go_wp2_with fail
    obtain ⟨w9, e9, ⟨d0, d1, d2, d3, d4, d5⟩, hb9, -⟩ := vol_end (w := w) (x0 := .int .i64 0) (x1 := .slice none 0 0) (x2 := .slice none 0 0) (x3 := .slice none 0 0) (x4 := .slice none 0 0) (x5 := .int .i64 0) (hk1.at_ (p := w.heap.size + 1) (t := 31) (cs := #[.int .i64 0, .slice none 0 0, .slice none 0 0, .slice none 0 0, .slice none 0 0, .int .i64 0]) (by simp)) hk1.1 (by omega)
    rw [e9]
    exact bodyPost_ret (v := .tuple #[.agg #[.int .i64 0, .slice none 0 0, .slice none 0 0, .slice none 0 0, .slice none 0 0, .int .i64 0], .int .i64 1]) (by simp [results, Tryz.results28, go_sem, d0, d1, d2, d3, d4, d5]) rfl ⟨_, rfl, rfl, hb9⟩
set_option maxRecDepth 20000 in
set_option maxHeartbeats 8000000 in
theorem fallenG_calls (x : VolG) (v : Value)  (w : World) (hx : x.Short) (hi : x.Int64) (h : RdG w w.heap.size x v)  :
    Calls Tryz.prog 31 #[v] w (Ans2 w (fallG x )) := by
  have VK := Lib.hid (fun (u : World) (hb : Below w.heap.size w u) => specVolumeOk_G x v u hx hi (h.grow hb))
  by_cases hok : x.okB = true
  · obtain ⟨h2, hinv⟩ := VolG.inv hi hok
    have he : fallG x  = (some (fallVol x.toN).1, (fallVol x.toN).2) := if_pos hok
    rw [he]
    rw [hok] at VK
    obtain ⟨A, c, B, d, C, e, b, off, s, rfl, i1, i2, i3, i4, i5, i6, i7⟩ := h.two h2
    generalize x.toN = y at *
    clear he h hok h2
    have K0 := Lib.hid (show Kept w [(w.heap.size + 1, 31, #[.int .i64 0, .slice none 0 0, .slice none 0 0, .slice none 0 0, .slice none 0 0, .int .i64 0]), (w.heap.size, 31, #[.int .i64 y.key, .slice A y.counts.length c, .slice B y.trusts.length d, .slice C y.cells.length e, .slice (some ⟨b, off, none⟩) 2 s, .int .i64 y.count])] _ from (((Kept.refl w).put1 _ _ #[.int .i64 y.key, .slice A y.counts.length c, .slice B y.trusts.length d, .slice C y.cells.length e, .slice (some ⟨b, off, none⟩) 2 s, .int .i64 y.count] rfl).put1 _ _ #[.int .i64 0, .slice none 0 0, .slice none 0 0, .slice none 0 0, .slice none 0 0, .int .i64 0] (by simp)))
    have TO := Lib.hid (fun (u : World) (hb : Below w.heap.size w u) => by
      obtain ⟨j1, j2, j3, j4, j5, j6⟩ := RdG.has (c := c) (d := d) (e := e) (s := s) ⟨i1, i2, i3, i4, i5, i6⟩ hb
      exact l13Fall_r y _ u hinv ⟨A, c, B, d, C, e, b, off, s, rfl, j1, j2, j3, j4, j5, j6, i7⟩)
    obtain ⟨⟨z, p⟩, hz⟩ : ∃ Y, Y = fallVol y := ⟨_, rfl⟩
    rw [← hz] at TO ⊢
    clear hz i1 i2 i3 i4 i5 i6 i7 hinv
    go_enter Tryz.func31, Tryz.ntmps31
    go_wp2_with fail
    obtain ⟨kc0, kf0, kc1, kf1, -⟩ := K0.out.rd
    go_wp2_with fail
    refine (VK.out _ K0.out.1).mono ?_; rintro e u1 ⟨rfl, hb1⟩
    have hk1 := K0.out.below hb1
    clear hb1 kc0 kf0 kc1 kf1 VK
    obtain ⟨kc0, kf0, kc1, kf1, -⟩ := hk1.rd
    go_wp2_with fail
    refine (TO.out _ hk1.1).mono ?_; rintro e u2 ⟨cs, rfl, hv1, hb1⟩
    obtain ⟨A', c', B', d', C', e', b', o', s', e1, -⟩ := hv1.reads
    injection e1 with e1
    subst e1
    have hk2 := hk1.below hb1
    have lo1 : w.heap.size + 1 < u1.heap.size := hk1.lt (x := (w.heap.size + 1, 31, #[.int .i64 0, .slice none 0 0, .slice none 0 0, .slice none 0 0, .slice none 0 0, .int .i64 0])) (by simp)
    have hv2 := hv1.mono (show w.heap.size + 1 + 1 ≤ _ by omega)
    have lo0 : w.heap.size + 1 < u2.heap.size := hk2.lt (x := (w.heap.size + 1, 31, #[.int .i64 0, .slice none 0 0, .slice none 0 0, .slice none 0 0, .slice none 0 0, .int .i64 0])) (by simp)
    clear hb1 hv1 kc0 kf0 kc1 kf1 TO hk1
    obtain ⟨kc0, kf0, kc1, kf1, -⟩ := hk2.rd
    have HV := Lib.hid hv2
    clear hv2
    go_wp2_with fail
    obtain ⟨w9, e9, ⟨d0, d1, d2, d3, d4, d5⟩, hb9, hg9⟩ := vol_end (w := w) (x0 := .int .i64 z.key) (x1 := .slice A' z.counts.length c') (x2 := .slice B' z.trusts.length d') (x3 := .slice C' z.cells.length e') (x4 := .slice (some ⟨b', o', none⟩) 2 s') (x5 := .int .i64 z.count) (hk2.at_ (p := w.heap.size + 1) (t := 31) (cs := #[.int .i64 0, .slice none 0 0, .slice none 0 0, .slice none 0 0, .slice none 0 0, .int .i64 0]) (by simp)) hk2.1 (by omega)
    rw [e9]
    exact bodyPost_ret (v := .tuple #[.agg #[.int .i64 z.key, .slice A' z.counts.length c', .slice B' z.trusts.length d', .slice C' z.cells.length e', (.slice (some ⟨b', o', none⟩) 2 s'), .int .i64 z.count], .int .i64 p]) (by simp [results, Tryz.results31, go_sem, d0, d1, d2, d3, d4, d5]) rfl ⟨_, rfl, (HV.out.out hg9 (by omega)).mono (by omega), hb9⟩
  · have he : fallG x  = (none, 1) := if_neg hok
    have hok' : x.okB = false := by simpa using hok
    rw [he]
    rw [hok'] at VK
    obtain ⟨A, c, B, d, C, e, E, s, rfl, -⟩ := h
    clear he hok hok'
    have K0 := Lib.hid (show Kept w [(w.heap.size + 1, 31, #[.int .i64 0, .slice none 0 0, .slice none 0 0, .slice none 0 0, .slice none 0 0, .int .i64 0]), (w.heap.size, 31, #[.int .i64 x.key, .slice A x.counts.length c, .slice B x.trusts.length d, .slice C x.cells.length e, .slice E x.slots.length s, .int .i64 x.count])] _ from (((Kept.refl w).put1 _ _ #[.int .i64 x.key, .slice A x.counts.length c, .slice B x.trusts.length d, .slice C x.cells.length e, .slice E x.slots.length s, .int .i64 x.count] rfl).put1 _ _ #[.int .i64 0, .slice none 0 0, .slice none 0 0, .slice none 0 0, .slice none 0 0, .int .i64 0] (by simp)))
    go_enter Tryz.func31, Tryz.ntmps31
    go_wp2_with fail
    obtain ⟨kc0, kf0, kc1, kf1, -⟩ := K0.out.rd
    go_wp2_with fail
    refine (VK.out _ K0.out.1).mono ?_; rintro e u1 ⟨rfl, hb1⟩
    have hk1 := K0.out.below hb1
    have lo0 : w.heap.size + 1 < u1.heap.size := hk1.lt (x := (w.heap.size + 1, 31, #[.int .i64 0, .slice none 0 0, .slice none 0 0, .slice none 0 0, .slice none 0 0, .int .i64 0])) (by simp)
    clear hb1 kc0 kf0 kc1 kf1 VK K0
    obtain ⟨kc0, kf0, kc1, kf1, -⟩ := hk1.rd
    go_wp2_with fail
    obtain ⟨w9, e9, ⟨d0, d1, d2, d3, d4, d5⟩, hb9, -⟩ := vol_end (w := w) (x0 := .int .i64 0) (x1 := .slice none 0 0) (x2 := .slice none 0 0) (x3 := .slice none 0 0) (x4 := .slice none 0 0) (x5 := .int .i64 0) (hk1.at_ (p := w.heap.size + 1) (t := 31) (cs := #[.int .i64 0, .slice none 0 0, .slice none 0 0, .slice none 0 0, .slice none 0 0, .int .i64 0]) (by simp)) hk1.1 (by omega)
    rw [e9]
    exact bodyPost_ret (v := .tuple #[.agg #[.int .i64 0, .slice none 0 0, .slice none 0 0, .slice none 0 0, .slice none 0 0, .int .i64 0], .int .i64 1]) (by simp [results, Tryz.results31, go_sem, d0, d1, d2, d3, d4, d5]) rfl ⟨_, rfl, rfl, hb9⟩
set_option maxRecDepth 20000 in
set_option maxHeartbeats 8000000 in
theorem spoiltG_calls (x : VolG) (v : Value) (a : Int) (w : World) (hx : x.Short) (hi : x.Int64) (h : RdG w w.heap.size x v)  :
    Calls Tryz.prog 34 #[v, .int .i64 a] w (Ans2 w (spoilG x a)) := by
  have VK := Lib.hid (fun (u : World) (hb : Below w.heap.size w u) => specVolumeOk_G x v u hx hi (h.grow hb))
  by_cases hok : x.okB = true
  · obtain ⟨h2, hinv⟩ := VolG.inv hi hok
    have he : spoilG x a = (some (spoilVol x.toN a).1, (spoilVol x.toN a).2) := if_pos hok
    rw [he]
    rw [hok] at VK
    obtain ⟨A, c, B, d, C, e, b, off, s, rfl, i1, i2, i3, i4, i5, i6, i7⟩ := h.two h2
    generalize x.toN = y at *
    clear he h hok h2
    have K0 := Lib.hid (show Kept w [(w.heap.size + 1, 31, #[.int .i64 0, .slice none 0 0, .slice none 0 0, .slice none 0 0, .slice none 0 0, .int .i64 0]), (w.heap.size, 31, #[.int .i64 y.key, .slice A y.counts.length c, .slice B y.trusts.length d, .slice C y.cells.length e, .slice (some ⟨b, off, none⟩) 2 s, .int .i64 y.count])] _ from (((Kept.refl w).put1 _ _ #[.int .i64 y.key, .slice A y.counts.length c, .slice B y.trusts.length d, .slice C y.cells.length e, .slice (some ⟨b, off, none⟩) 2 s, .int .i64 y.count] rfl).put1 _ _ #[.int .i64 0, .slice none 0 0, .slice none 0 0, .slice none 0 0, .slice none 0 0, .int .i64 0] (by simp)))
    have TO := Lib.hid (fun (u : World) (hb : Below w.heap.size w u) => by
      obtain ⟨j1, j2, j3, j4, j5, j6⟩ := RdG.has (c := c) (d := d) (e := e) (s := s) ⟨i1, i2, i3, i4, i5, i6⟩ hb
      exact l13Spoil_r y _ u hinv ⟨A, c, B, d, C, e, b, off, s, rfl, j1, j2, j3, j4, j5, j6, i7⟩ a)
    obtain ⟨⟨z, p⟩, hz⟩ : ∃ Y, Y = spoilVol y a := ⟨_, rfl⟩
    rw [← hz] at TO ⊢
    clear hz i1 i2 i3 i4 i5 i6 i7 hinv
    go_enter Tryz.func34, Tryz.ntmps34
    go_wp2_with fail
    obtain ⟨kc0, kf0, kc1, kf1, -⟩ := K0.out.rd
    go_wp2_with fail
    refine (VK.out _ K0.out.1).mono ?_; rintro e u1 ⟨rfl, hb1⟩
    have hk1 := K0.out.below hb1
    clear hb1 kc0 kf0 kc1 kf1 VK
    obtain ⟨kc0, kf0, kc1, kf1, -⟩ := hk1.rd
    go_wp2_with fail
    refine (TO.out _ hk1.1).mono ?_; rintro e u2 ⟨cs, rfl, hv1, hb1⟩
    obtain ⟨A', c', B', d', C', e', b', o', s', e1, -⟩ := hv1.reads
    injection e1 with e1
    subst e1
    have hk2 := hk1.below hb1
    have lo1 : w.heap.size + 1 < u1.heap.size := hk1.lt (x := (w.heap.size + 1, 31, #[.int .i64 0, .slice none 0 0, .slice none 0 0, .slice none 0 0, .slice none 0 0, .int .i64 0])) (by simp)
    have hv2 := hv1.mono (show w.heap.size + 1 + 1 ≤ _ by omega)
    have lo0 : w.heap.size + 1 < u2.heap.size := hk2.lt (x := (w.heap.size + 1, 31, #[.int .i64 0, .slice none 0 0, .slice none 0 0, .slice none 0 0, .slice none 0 0, .int .i64 0])) (by simp)
    clear hb1 hv1 kc0 kf0 kc1 kf1 TO hk1
    obtain ⟨kc0, kf0, kc1, kf1, -⟩ := hk2.rd
    have HV := Lib.hid hv2
    clear hv2
    go_wp2_with fail
    obtain ⟨w9, e9, ⟨d0, d1, d2, d3, d4, d5⟩, hb9, hg9⟩ := vol_end (w := w) (x0 := .int .i64 z.key) (x1 := .slice A' z.counts.length c') (x2 := .slice B' z.trusts.length d') (x3 := .slice C' z.cells.length e') (x4 := .slice (some ⟨b', o', none⟩) 2 s') (x5 := .int .i64 z.count) (hk2.at_ (p := w.heap.size + 1) (t := 31) (cs := #[.int .i64 0, .slice none 0 0, .slice none 0 0, .slice none 0 0, .slice none 0 0, .int .i64 0]) (by simp)) hk2.1 (by omega)
    rw [e9]
    exact bodyPost_ret (v := .tuple #[.agg #[.int .i64 z.key, .slice A' z.counts.length c', .slice B' z.trusts.length d', .slice C' z.cells.length e', (.slice (some ⟨b', o', none⟩) 2 s'), .int .i64 z.count], .int .i64 p]) (by simp [results, Tryz.results34, go_sem, d0, d1, d2, d3, d4, d5]) rfl ⟨_, rfl, (HV.out.out hg9 (by omega)).mono (by omega), hb9⟩
  · have he : spoilG x a = (none, 1) := if_neg hok
    have hok' : x.okB = false := by simpa using hok
    rw [he]
    rw [hok'] at VK
    obtain ⟨A, c, B, d, C, e, E, s, rfl, -⟩ := h
    clear he hok hok'
    have K0 := Lib.hid (show Kept w [(w.heap.size + 1, 31, #[.int .i64 0, .slice none 0 0, .slice none 0 0, .slice none 0 0, .slice none 0 0, .int .i64 0]), (w.heap.size, 31, #[.int .i64 x.key, .slice A x.counts.length c, .slice B x.trusts.length d, .slice C x.cells.length e, .slice E x.slots.length s, .int .i64 x.count])] _ from (((Kept.refl w).put1 _ _ #[.int .i64 x.key, .slice A x.counts.length c, .slice B x.trusts.length d, .slice C x.cells.length e, .slice E x.slots.length s, .int .i64 x.count] rfl).put1 _ _ #[.int .i64 0, .slice none 0 0, .slice none 0 0, .slice none 0 0, .slice none 0 0, .int .i64 0] (by simp)))
    go_enter Tryz.func34, Tryz.ntmps34
    go_wp2_with fail
    obtain ⟨kc0, kf0, kc1, kf1, -⟩ := K0.out.rd
    go_wp2_with fail
    refine (VK.out _ K0.out.1).mono ?_; rintro e u1 ⟨rfl, hb1⟩
    have hk1 := K0.out.below hb1
    have lo0 : w.heap.size + 1 < u1.heap.size := hk1.lt (x := (w.heap.size + 1, 31, #[.int .i64 0, .slice none 0 0, .slice none 0 0, .slice none 0 0, .slice none 0 0, .int .i64 0])) (by simp)
    clear hb1 kc0 kf0 kc1 kf1 VK K0
    obtain ⟨kc0, kf0, kc1, kf1, -⟩ := hk1.rd
    go_wp2_with fail
    obtain ⟨w9, e9, ⟨d0, d1, d2, d3, d4, d5⟩, hb9, -⟩ := vol_end (w := w) (x0 := .int .i64 0) (x1 := .slice none 0 0) (x2 := .slice none 0 0) (x3 := .slice none 0 0) (x4 := .slice none 0 0) (x5 := .int .i64 0) (hk1.at_ (p := w.heap.size + 1) (t := 31) (cs := #[.int .i64 0, .slice none 0 0, .slice none 0 0, .slice none 0 0, .slice none 0 0, .int .i64 0]) (by simp)) hk1.1 (by omega)
    rw [e9]
    exact bodyPost_ret (v := .tuple #[.agg #[.int .i64 0, .slice none 0 0, .slice none 0 0, .slice none 0 0, .slice none 0 0, .int .i64 0], .int .i64 1]) (by simp [results, Tryz.results34, go_sem, d0, d1, d2, d3, d4, d5]) rfl ⟨_, rfl, rfl, hb9⟩
end Go.Proofs.YteoijmejhdocdaaGreatDoor.Mx

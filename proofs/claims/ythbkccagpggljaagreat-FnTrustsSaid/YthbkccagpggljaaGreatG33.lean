import Derived.Test.YthbkccagpggljaaGreatG30
import Derived.Deep.CutRange
namespace Go.Proofs.YthbkccagpggljaaGreat.Mx
open Go.ChangeShapes Go.WideShapes Go.ChangeAt Go.RowKit
set_option linter.unusedVariables false
def QBox (w : World) (base p : Nat) (key : Int) (v : Value) (zs : List Int) : Prop :=
  base ≤ w.heap.size ∧ v.ownBlock ≠ some p ∧ CellsAt w p 26 #[.int .i64 key, v] ∧ Row w base 2 v zs
namespace QBox
variable {w w' : World} {base p g : Nat} {key : Int} {v : Value} {zs : List Int}
theorem lt (h : QBox w base p key v zs) : p < w.heap.size := h.2.2.1.lt
theorem grown (h : QBox w base p key v zs) (hg : w.grownBy w' (some g)) (hp : g ≠ p) (hb : g < base) : QBox w' base p key v zs :=
  ⟨Nat.le_trans h.1 hg.size, h.2.1, h.2.2.1.grown hg (by intro e; injection e with e; exact hp e.symm), h.2.2.2.grown hg hb⟩
theorem alloc (h : QBox w base p key v zs) (o : Obj) : QBox (w.alloc o) base p key v zs :=
  ⟨by have := h.1; simp; omega, h.2.1, CellsAt.grown h.2.2.1 (World.grownBy_alloc w o none) (by simp), h.2.2.2.alloc o⟩
theorem drew (h : QBox w base p key v zs) : QBox w.drew base p key v zs := ⟨h.1, h.2.1, h.2.2.1.drew, ⟨h.2.2.2.1.drew, h.2.2.2.2⟩⟩
theorem grew (h : QBox w base p key v zs) (hg : w.grownBy w' v.ownBlock) : CellsAt w' p 26 #[.int .i64 key, v] ∧ Below base w w' :=
  ⟨h.2.2.1.grown hg (fun e => h.2.1 e.symm), gr_below hg h.1 (fun k hk => (h.2.2.2.1.lt k hk).1)⟩
theorem key_ (h : QBox w base p key v zs) (hb : v.ownBlock ≠ some p) (k : Int) : QBox (w.setCell ⟨p, 0, none⟩ (.int .i64 k)) base p k v zs :=
  ⟨by have := h.1; simp [World.setCell]; omega, hb, h.2.2.1.set_ 0 (.int .i64 k), by
    refine ⟨h.2.2.2.1.kept (gb_set (gb_refl w (some p)) 0 (.int .i64 k)) ?_, h.2.2.2.2⟩
    cases e : v.ownBlock with
    | none => exact .inl rfl
    | some j => exact .inr (by rw [← e]; exact hb)⟩
theorem row_ {u v' : Value} {ys : List Int} (hb : base ≤ w.heap.size) (hc : CellsAt w p 26 #[.int .i64 key, u]) (hv : v'.ownBlock ≠ some p) (hr : Row w base 2 v' ys) :
    QBox (w.setCell ⟨p, 1, none⟩ v') base p key v' ys :=
  ⟨by simp [World.setCell]; omega, hv, hc.set_ 1 v', by
    refine ⟨hr.1.kept (gb_set (gb_refl w (some p)) 1 v') ?_, hr.2⟩
    cases e : v'.ownBlock with
    | none => exact .inl rfl
    | some j => exact .inr (by rw [← e]; exact hv)⟩
end QBox
theorem plan_end {b w w3 : World} {g p n : Nat} {A : Option Addr} {l : List Int} {cap : Nat} {key : Int} {v : Value} {zs : List Int} (hn : zs.length ≤ n) (hg : g < w.heap.size)
    (hq : QBox w3 (w.heap.size + 1) p key v zs) (hk : CellsAt w3 w.heap.size 26 #[.int .i64 0, .slice none 0 0]) (hs : St b g A l cap w3) (hG : w.grownBy w3 (some g)) :
    ∃ w4, (w3.setCell ⟨w.heap.size, 0, none⟩ (.int .i64 key)).setCell ⟨w.heap.size, 1, none⟩ v = w4 ∧ (w4.cell? ⟨w.heap.size, 0, none⟩ = some (.int .i64 key) ∧ w4.cell? ⟨w.heap.size, 1, none⟩ = some v) ∧
      PlanR n b w g A l cap (.returned (.agg #[.int .i64 key, v])) w4 := by
  have hk' := (hk.set_ 0 (.int .i64 key)).set_ 1 v
  have hr := (hq.2.2.2.grown (gb_set (gb_refl w3 (some w.heap.size)) 0 (.int .i64 key)) (by omega)).grown (gb_set (gb_refl _ (some w.heap.size)) 1 v) (by omega)
  exact ⟨_, rfl, ⟨hk'.cell 0, hk'.cell 1⟩, key, v, zs, rfl, hn, hr.mono (by omega), (hs.set hg 0 (.int .i64 key)).set hg 1 v, gb_new (gb_new hG (Nat.le_refl _) 0 (.int .i64 key)) (Nat.le_refl _) 1 v⟩
set_option maxRecDepth 20000 in
set_option maxHeartbeats 2000000 in
theorem draw5Any_calls (v : World) (g : Nat) (A : Option Addr) (l : List Int) (cap : Nat) (w : World) (hn : l.length ≤ maxLen) (h : St v g A l cap w) :
    Calls Tryz.prog 20 #[.pointer (some ⟨g, 0, none⟩)] w (PlanR 5 v w g A l cap) := by
  have HN := Lib.hid hn
  have HS := Lib.hid h
  have HL := h.2.lt
  clear hn h
  obtain ⟨i0, hi, hz0, hz1, hz2⟩ := info_parts info_n64
  go_enter Tryz.func20, Tryz.ntmps20
  go_wp2_with fail
  refine (draw5_calls v g A l cap _ HN.out (HS.out.alloc _)).mono ?_; rintro e w1 ⟨key, u, zs, rfl, hz, r1, s1, g1⟩
  have S1 := Lib.hid s1
  have G1 := Lib.hid (gb_trans (gb_alloc (gb_refl w (some g)) _) g1)
  have K1 := Lib.hid ((CellsAt.new w 26 #[.int .i64 0, .slice none 0 0]).grown g1 (by intro e; injection e with e; omega))
  have z1 : w.heap.size < w1.heap.size := by have := g1.size; simp at this; omega
  have R1 := Lib.hid (show Row w1 (w.heap.size + 1) 2 u zs from by simpa using r1)
  obtain ⟨q, c, hq, -⟩ := r1.reads
  subst hq
  clear s1 g1 r1
  have Q1 := Lib.hid (show QBox (w1.alloc (.cells #[.int .i64 key, .slice q zs.length c] 26)) (w.heap.size + 1) w1.heap.size key (.slice q zs.length c) zs from
    ⟨by simp; omega, by intro e; have := (R1.out.1.lt _ e).2; omega, CellsAt.new _ _ _, R1.out.alloc _⟩)
  go_wp2_with fail
  refine (once_st v g A l cap 8 _ HN.out (S1.out.alloc _) (by omega)).mono ?_; rintro e w2 ⟨b, rfl, s2, g2⟩
  have S2 := Lib.hid s2
  have G2 := Lib.hid (gb_trans (gb_alloc G1.out (.cells #[.int .i64 key, .slice q zs.length c] 26)) g2)
  have K2 := Lib.hid ((CellsAt.grown K1.out (World.grownBy_alloc w1 (.cells #[.int .i64 key, .slice q zs.length c] 26) none) (by simp)).grown g2 (by intro e; injection e with e; omega))
  have Q2 := Lib.hid (Q1.out.grown g2 (by omega) (by omega))
  clear s2 g2 Q1 K1 S1 G1 R1
  rcases b with _ | _
  · go_upto_region 14 with fail
    have c0 : w2.cell? ⟨w1.heap.size, 0, none⟩ = some (.int .i64 key) := Q2.out.2.2.1.cell 0
    have c1 : w2.cell? ⟨w1.heap.size, 1, none⟩ = some (.slice q zs.length c) := Q2.out.2.2.1.cell 1
    have r0 : w2.cell? ⟨w.heap.size, 0, none⟩ = some (.int .i64 0) := K2.out.cell 0
    have r1 : w2.cell? ⟨w.heap.size, 1, none⟩ = some (.slice none 0 0) := K2.out.cell 1
    have f0 := K2.out.frozen 0
    have f1 := K2.out.frozen 1
    go_wp2_with fail
    obtain ⟨w9, e9, ⟨d0, d1⟩, hend⟩ := plan_end (n := 5) (by omega) HL Q2.out K2.out S2.out G2.out
    rw [e9]
    have HE := Lib.hid hend
    clear e9 hend
    exact bodyPost_ret (v := .agg #[.int .i64 key, .slice q zs.length c]) (by simp [results, Tryz.results20, go_sem, d0, d1]) rfl HE.out
  · go_wp2_with fail
    refine (below_st v g A l cap 4 w2 HN.out S2.out (by omega)).mono ?_; rintro e w3 ⟨n, rfl, ⟨n0, n1⟩, s3, g3⟩
    have S3 := Lib.hid s3
    have G3 := Lib.hid (gb_trans G2.out g3)
    have K3 := Lib.hid (K2.out.grown g3 (by intro e; injection e with e; omega))
    have Q3 := Lib.hid (Q2.out.grown g3 (by omega) (by omega))
    clear s3 g3 Q2 K2 S2 G2
    have hn4 : n = 0 ∨ n = 1 ∨ n = 2 ∨ n = 3 := by omega
    clear n0 n1
    rcases hn4 with rfl | rfl | rfl | rfl
    · go_wp2_with fail
      refine (num_st v g A l cap 1000000 w3 HN.out S3.out (by omega) (by omega)).mono ?_; rintro e w4 ⟨x, rfl, -, s4, g4⟩
      have Q4 := Q3.out.grown g4 (by omega) (by omega)
      have c0 : w4.cell? ⟨w1.heap.size, 0, none⟩ = some (.int .i64 key) := Q4.2.2.1.cell 0
      have f0 := Q4.2.2.1.frozen 0
      have QX := Lib.hid (Q4.key_ Q4.2.1 x)
      have KX := Lib.hid ((K3.out.grown g4 (by intro e; injection e with e; omega)).grown (gb_set (gb_refl w4 (some w1.heap.size)) 0 (.int .i64 x)) (by intro e; injection e with e; omega))
      have SX := Lib.hid (s4.set (show g < w1.heap.size by omega) 0 (.int .i64 x))
      have GX := Lib.hid (gb_new (gb_trans G3.out g4) (show w.heap.size ≤ w1.heap.size by omega) 0 (.int .i64 x))
      clear Q4 s4 g4 Q3 K3 S3 G3
      go_upto_region 14 with fail
      clear c0 f0
      generalize World.setCell _ _ _ = wX at QX KX SX GX ⊢
      have c0 : wX.cell? ⟨w1.heap.size, 0, none⟩ = some (.int .i64 x) := QX.out.2.2.1.cell 0
      have c1 : wX.cell? ⟨w1.heap.size, 1, none⟩ = some (.slice q zs.length c) := QX.out.2.2.1.cell 1
      have r0 : wX.cell? ⟨w.heap.size, 0, none⟩ = some (.int .i64 0) := KX.out.cell 0
      have r1 : wX.cell? ⟨w.heap.size, 1, none⟩ = some (.slice none 0 0) := KX.out.cell 1
      have f0 := KX.out.frozen 0
      have f1 := KX.out.frozen 1
      go_wp2_with fail
      obtain ⟨w9, e9, ⟨d0, d1⟩, hend⟩ := plan_end (n := 5) (by omega) HL QX.out KX.out SX.out GX.out
      rw [e9]
      have HE := Lib.hid hend
      clear e9 hend
      exact bodyPost_ret (v := .agg #[.int .i64 x, .slice q zs.length c]) (by simp [results, Tryz.results20, go_sem, d0, d1]) rfl HE.out
    · go_upto_region 7 with fail
      have c1 : w3.cell? ⟨w1.heap.size, 1, none⟩ = some (.slice q zs.length c) := Q3.out.2.2.1.cell 1
      go_region_law (first
        | (refine step_append_lies _ (by rfl) _ _ _ (by rfl) (w.heap.size + 1) 2 i0 _ 1 8 Tryz.underlying24 hi hz0 hz1 hz2 rfl (by omega) (.slice q zs.length c) zs.length (zs.map (Value.int .i64)) (by rfl) (PX.out.alloc _).2.2.2.1
            ⟨wx.heap.size, 0, none⟩ 1 1 [.int .i64 y] (by rfl) (by rfl) (World.news_of_block (cs := #[.int .i64 y]) (t := 2) (fr := (0, 0)) (heap_alloc_new wx _)) (by simp [Value.oneCell'])
            (by omega) (by unfold maxLen; omega) (by omega) (by have := PX.out.1; simp; omega) (wx.heap.size + 1) (by simp) ?_
           intro gg cc wy hown hgrow hat hlt2
           have hpg := (PX.out.alloc (.cells #[.int .i64 y] 2)).grew hgrow
           have d1 : wy.cell? ⟨w1.heap.size, 1, none⟩ = some (.slice q zs.length c) := hpg.1.cell 1
           have d2 := hpg.1.frozen 1
           have hne : (Value.slice (some ⟨gg, 0, none⟩) (zs.length + 1) cc).ownBlock ≠ some w1.heap.size := by
             rcases hat with h | h
             · intro e; exact PX.out.2.1 (h.trans e)
             · intro e; have e2 : gg = w1.heap.size := Option.some.inj e; have := PX.out.lt; omega
           have PY := Lib.hid (QBox.row_ (key := key) (Nat.le_trans (PX.out.alloc (.cells #[.int .i64 y] 2)).1 hgrow.size) hpg.1 hne (Row.snoc PX.out.2.2.2.2 (by omega) (by omega) hown))
           have BY := Lib.hid hpg.2
           clear hown hgrow hat hlt2 hpg hne)
        | (go_simp; go_at_call 21; refine (from_st v g A l cap 0 9 _ HN.out ?_ (by omega) (by omega) (by omega)).mono ?_; exact S3.out.drew; rintro e wx ⟨y, rfl, ⟨y0, y1⟩, sx, gx⟩
           have PX := Lib.hid (Q3.out.drew.grown gx (by omega) (by omega))
           have SX := Lib.hid sx
           have GX := Lib.hid (gb_trans (gb_drew G3.out) gx)
           have KX := Lib.hid (K3.out.drew.grown gx (by intro e; injection e with e; omega))
           have e1 : wx.cell? ⟨w1.heap.size, 1, none⟩ = some (.slice q zs.length c) := PX.out.2.2.1.cell 1
           have e2 : ∀ o, (wx.alloc o).cell? ⟨w1.heap.size, 1, none⟩ = some (.slice q zs.length c) := fun o => (PX.out.alloc o).2.2.1.cell 1
           clear sx gx))
      all_goals
        have SY := Lib.hid (((SX.out.alloc (.cells #[.int .i64 y] 2)).below BY.out (by omega)).set (show g < w1.heap.size by omega) 1 (.slice (some ⟨gg, 0, none⟩) (zs.length + 1) cc))
        have KY := Lib.hid (((CellsAt.grown KX.out (World.grownBy_alloc wx (.cells #[.int .i64 y] 2) none) (by simp)).below BY.out (by omega)).grown (gb_set (gb_refl wy (some w1.heap.size)) 1 (.slice (some ⟨gg, 0, none⟩) (zs.length + 1) cc)) (by intro e; injection e with e; omega))
        have GY := Lib.hid (gb_new (gb_blw (gb_alloc GX.out (.cells #[.int .i64 y] 2)) (BY.out.mono (by omega))) (show w.heap.size ≤ w1.heap.size by omega) 1 (.slice (some ⟨gg, 0, none⟩) (zs.length + 1) cc))
        clear SX KX GX BY PX d1 d2 e1 e2 c1
        go_upto_region 14 with fail
        generalize World.setCell _ _ _ = wX at PY KY SY GY ⊢
        have c0 : wX.cell? ⟨w1.heap.size, 0, none⟩ = some (.int .i64 key) := PY.out.2.2.1.cell 0
        have c1 : wX.cell? ⟨w1.heap.size, 1, none⟩ = some (.slice (some ⟨gg, 0, none⟩) (zs.length + 1) cc) := PY.out.2.2.1.cell 1
        have r0 : wX.cell? ⟨w.heap.size, 0, none⟩ = some (.int .i64 0) := KY.out.cell 0
        have r1 : wX.cell? ⟨w.heap.size, 1, none⟩ = some (.slice none 0 0) := KY.out.cell 1
        have f0 := KY.out.frozen 0
        have f1 := KY.out.frozen 1
        go_wp2_with fail
        obtain ⟨w9, e9, ⟨d0, d1⟩, hend⟩ := plan_end (n := 5) (zs := zs ++ [y]) (by simp; omega) HL PY.out KY.out SY.out GY.out
        rw [e9]
        have HE := Lib.hid hend
        clear e9 hend
        exact bodyPost_ret (v := .agg #[.int .i64 key, .slice (some ⟨gg, 0, none⟩) (zs.length + 1) cc]) (by simp [results, Tryz.results20, go_sem, d0, d1]) rfl HE.out
    · have q3 := Q3.out.alloc (.cells #[.int .i64 8, .int .i64 8, .int .i64 8] 2)
      have c1 : (w3.alloc (.cells #[.int .i64 8, .int .i64 8, .int .i64 8] 2)).cell? ⟨w1.heap.size, 1, none⟩ = some (.slice q zs.length c) := q3.2.2.1.cell 1
      have f1 := q3.2.2.1.frozen 1
      have R4 : Row (w3.alloc (.cells #[.int .i64 8, .int .i64 8, .int .i64 8] 2)) (w.heap.size + 1) 2 (.slice (some ⟨w3.heap.size, 0, none⟩) 3 3) [8, 8, 8] :=
        ⟨World.ownsRow_lit w3 #[.int .i64 8, .int .i64 8, .int .i64 8] 3 Q3.out.1 (by simp [maxLen]) rfl, by repeat (first | exact I64s.nil | refine I64s.cons (by omega) (by omega) ?_)⟩
      have QX := Lib.hid (QBox.row_ (key := key) q3.1 q3.2.2.1 (by intro e; have e2 : w3.heap.size = w1.heap.size := Option.some.inj e; have := Q3.out.lt; omega) R4)
      have KX := Lib.hid ((CellsAt.grown K3.out (World.grownBy_alloc w3 (.cells #[.int .i64 8, .int .i64 8, .int .i64 8] 2) none) (by simp)).grown (gb_set (gb_refl _ (some w1.heap.size)) 1 (.slice (some ⟨w3.heap.size, 0, none⟩) 3 3)) (by intro e; injection e with e; omega))
      have SX := Lib.hid ((S3.out.alloc (.cells #[.int .i64 8, .int .i64 8, .int .i64 8] 2)).set (show g < w1.heap.size by omega) 1 (.slice (some ⟨w3.heap.size, 0, none⟩) 3 3))
      have GX := Lib.hid (gb_new (gb_alloc G3.out (.cells #[.int .i64 8, .int .i64 8, .int .i64 8] 2)) (show w.heap.size ≤ w1.heap.size by omega) 1 (.slice (some ⟨w3.heap.size, 0, none⟩) 3 3))
      clear q3 R4 K3 S3 G3
      go_wp2_with fail
      clear c1 f1
      generalize World.setCell _ _ _ = wX at QX KX SX GX ⊢
      refine (once_st v g A l cap 2 wX HN.out SX.out (by omega)).mono ?_; rintro e w4 ⟨b, rfl, s4, g4⟩
      have S4 := Lib.hid s4
      have G4 := Lib.hid (gb_trans GX.out g4)
      have K4 := Lib.hid (KX.out.grown g4 (by intro e; injection e with e; omega))
      have Q4 := Lib.hid (QX.out.grown g4 (by omega) (by omega))
      have z4 : w1.heap.size < w4.heap.size := Q4.out.lt
      clear s4 g4 QX KX SX GX
      generalize w3.heap.size = h3 at Q4 ⊢
      clear Q3
      rcases b with _ | _
      · go_upto_region 14 with fail
        have c0 : w4.cell? ⟨w1.heap.size, 0, none⟩ = some (.int .i64 key) := Q4.out.2.2.1.cell 0
        have c1 : w4.cell? ⟨w1.heap.size, 1, none⟩ = some (.slice (some ⟨h3, 0, none⟩) 3 3) := Q4.out.2.2.1.cell 1
        have r0 : w4.cell? ⟨w.heap.size, 0, none⟩ = some (.int .i64 0) := K4.out.cell 0
        have r1 : w4.cell? ⟨w.heap.size, 1, none⟩ = some (.slice none 0 0) := K4.out.cell 1
        have f0 := K4.out.frozen 0
        have f1 := K4.out.frozen 1
        go_wp2_with fail
        obtain ⟨w9, e9, ⟨d0, d1⟩, hend⟩ := plan_end (n := 5) (by simp) HL Q4.out K4.out S4.out G4.out
        rw [e9]
        have HE := Lib.hid hend
        clear e9 hend
        exact bodyPost_ret (v := .agg #[.int .i64 key, .slice (some ⟨h3, 0, none⟩) 3 3]) (by simp [results, Tryz.results20, go_sem, d0, d1]) rfl HE.out
      · have e1 : w4.cell? ⟨w1.heap.size, 1, none⟩ = some (.slice (some ⟨h3, 0, none⟩) 3 3) := Q4.out.2.2.1.cell 1
        go_upto_region 11 with fail
        go_wp2_with (at_builtin; refine wpList_append_lies _ rfl _ _ 24 rfl (w.heap.size + 1) 2 i0 (.int .i64 0) 1 8 Tryz.underlying24 hi hz0 hz1 hz2 rfl (by omega) (.slice (some ⟨h3, 0, none⟩) 3 3) 3 ([8, 8, 8].map (Value.int .i64)) rfl (Q4.out.alloc _).2.2.2.1 ⟨w4.heap.size, 0, none⟩ 1 1 [.int .i64 1] rfl rfl (World.news_of_block (cs := #[.int .i64 1]) (t := 2) (fr := (0, 0)) (heap_alloc_new w4 _)) (by simp [Value.oneCell']) (by omega) (by simp [maxLen]) (by omega) ?e1 (w4.heap.size + 1) (by simp) ?_)
        case e1 => have := Q4.out.1; simp; omega
        intro gg cc wy hown hgrow hat hlt2
        have hpg := (Q4.out.alloc (.cells #[.int .i64 1] 2)).grew hgrow
        have d1 : wy.cell? ⟨w1.heap.size, 1, none⟩ = some (.slice (some ⟨h3, 0, none⟩) 3 3) := hpg.1.cell 1
        have d2 := hpg.1.frozen 1
        have hne : (Value.slice (some ⟨gg, 0, none⟩) (3 + 1) cc).ownBlock ≠ some w1.heap.size := by
          rcases hat with h | h
          · intro e; exact Q4.out.2.1 (h.trans e)
          · intro e; have e2 : gg = w1.heap.size := Option.some.inj e; omega
        have PY := Lib.hid (QBox.row_ (key := key) (Nat.le_trans (Q4.out.alloc (.cells #[.int .i64 1] 2)).1 hgrow.size) hpg.1 hne (Row.snoc (zs := [8, 8, 8]) Q4.out.2.2.2.2 (by omega) (by omega) hown))
        have SY := Lib.hid (((S4.out.alloc (.cells #[.int .i64 1] 2)).below hpg.2 (by omega)).set (show g < w1.heap.size by omega) 1 (.slice (some ⟨gg, 0, none⟩) (3 + 1) cc))
        have KY := Lib.hid (((CellsAt.grown K4.out (World.grownBy_alloc w4 (.cells #[.int .i64 1] 2) none) (by simp)).below hpg.2 (by omega)).grown (gb_set (gb_refl wy (some w1.heap.size)) 1 (.slice (some ⟨gg, 0, none⟩) (3 + 1) cc)) (by intro e; injection e with e; omega))
        have GY := Lib.hid (gb_new (gb_blw (gb_alloc G4.out (.cells #[.int .i64 1] 2)) (hpg.2.mono (by omega))) (show w.heap.size ≤ w1.heap.size by omega) 1 (.slice (some ⟨gg, 0, none⟩) (3 + 1) cc))
        clear hown hgrow hat hlt2 hpg hne S4 K4 G4 Q4 e1
        go_upto_region 14 with fail
        generalize World.setCell _ _ _ = wX at PY KY SY GY ⊢
        have c0 : wX.cell? ⟨w1.heap.size, 0, none⟩ = some (.int .i64 key) := PY.out.2.2.1.cell 0
        have c1 : wX.cell? ⟨w1.heap.size, 1, none⟩ = some (.slice (some ⟨gg, 0, none⟩) (3 + 1) cc) := PY.out.2.2.1.cell 1
        have r0 : wX.cell? ⟨w.heap.size, 0, none⟩ = some (.int .i64 0) := KY.out.cell 0
        have r1 : wX.cell? ⟨w.heap.size, 1, none⟩ = some (.slice none 0 0) := KY.out.cell 1
        have f0 := KY.out.frozen 0
        have f1 := KY.out.frozen 1
        go_wp2_with fail
        obtain ⟨w9, e9, ⟨d0, d1⟩, hend⟩ := plan_end (n := 5) (zs := [8, 8, 8] ++ [1]) (by simp) HL PY.out KY.out SY.out GY.out
        rw [e9]
        have HE := Lib.hid hend
        clear e9 hend
        exact bodyPost_ret (v := .agg #[.int .i64 key, .slice (some ⟨gg, 0, none⟩) (3 + 1) cc]) (by simp [results, Tryz.results20, go_sem, d0, d1]) rfl HE.out
    · go_wp2_with fail
      refine (below_st v g A l cap 6 w3 HN.out S3.out (by omega)).mono ?_; rintro e w4 ⟨n, rfl, ⟨n0, n1⟩, s4, g4⟩
      obtain ⟨k, rfl⟩ := Int.eq_ofNat_of_zero_le n0
      have hk6 : k ≤ 5 := by omega
      have S4 := Lib.hid s4
      have G4 := Lib.hid (gb_trans G3.out g4)
      have K4 := Lib.hid (K3.out.grown g4 (by intro e; injection e with e; omega))
      have Q4 := Lib.hid (Q3.out.grown g4 (by omega) (by omega))
      have z4 : w1.heap.size < w4.heap.size := Q4.out.lt
      clear s4 g4 Q3 K3 S3 G3 n0 n1
      have hmk := run_make_row' (P := Tryz.prog) 24 2 (.int .i64 0) 8 Tryz.underlying24 info_n64 rfl .i64 .i64 k (by omega) (by omega)
      have q4 := Q4.out.alloc (.cells (madeCells #[.int .i64 0] k) 2)
      have c1 : (w4.alloc (.cells (madeCells #[.int .i64 0] k) 2)).cell? ⟨w1.heap.size, 1, none⟩ = some (.slice q zs.length c) := q4.2.2.1.cell 1
      have f1 := q4.2.2.1.frozen 1
      have hmade : (madeCells #[Value.int .i64 0] k).toList = (List.replicate k (0 : Int)).map (Value.int .i64) := by
        refine List.ext_getElem (by simp [size_madeCells]) fun i h1 h2 => ?_
        simp [madeCells, Nat.mod_one]
      have R4 : Row (w4.alloc (.cells (madeCells #[.int .i64 0] k) 2)) (w.heap.size + 1) 2 (.slice (some ⟨w4.heap.size, 0, none⟩) k k) (List.replicate k 0) := by
        have h := World.ownsRow_lit (base := w.heap.size + 1) (e := 2) (size := 1) w4 (madeCells #[.int .i64 0] k) k Q4.out.1 (by simp [maxLen]; omega) (by simp [size_madeCells])
        rw [hmade] at h
        refine ⟨by rw [List.length_replicate]; exact h, fun i hi => ?_⟩
        rw [List.length_replicate] at hi
        rw [List.getD_eq_getElem?_getD, List.getElem?_replicate, if_pos hi]
        exact ⟨by decide, by decide⟩
      have QX := Lib.hid (QBox.row_ (key := key) q4.1 q4.2.2.1 (by intro e; have e2 : w4.heap.size = w1.heap.size := Option.some.inj e; omega) R4)
      have KX := Lib.hid ((CellsAt.grown K4.out (World.grownBy_alloc w4 (.cells (madeCells #[.int .i64 0] k) 2) none) (by simp)).grown (gb_set (gb_refl _ (some w1.heap.size)) 1 (.slice (some ⟨w4.heap.size, 0, none⟩) k k)) (by intro e; injection e with e; omega))
      have SX := Lib.hid ((S4.out.alloc (.cells (madeCells #[.int .i64 0] k) 2)).set (show g < w1.heap.size by omega) 1 (.slice (some ⟨w4.heap.size, 0, none⟩) k k))
      have GX := Lib.hid (gb_new (gb_alloc G4.out (.cells (madeCells #[.int .i64 0] k) 2)) (show w.heap.size ≤ w1.heap.size by omega) 1 (.slice (some ⟨w4.heap.size, 0, none⟩) k k))
      clear q4 hmade R4 Q4 K4 S4 G4 z4
      go_upto_region 14 with fail
      clear hmk c1 f1
      generalize World.setCell _ _ _ = wX at QX KX SX GX ⊢
      have c0 : wX.cell? ⟨w1.heap.size, 0, none⟩ = some (.int .i64 key) := QX.out.2.2.1.cell 0
      have c1 : wX.cell? ⟨w1.heap.size, 1, none⟩ = some (.slice (some ⟨w4.heap.size, 0, none⟩) k k) := QX.out.2.2.1.cell 1
      have r0 : wX.cell? ⟨w.heap.size, 0, none⟩ = some (.int .i64 0) := KX.out.cell 0
      have r1 : wX.cell? ⟨w.heap.size, 1, none⟩ = some (.slice none 0 0) := KX.out.cell 1
      have f0 := KX.out.frozen 0
      have f1 := KX.out.frozen 1
      go_wp2_with fail
      obtain ⟨w9, e9, ⟨d0, d1⟩, hend⟩ := plan_end (n := 5) (by simp; omega) HL QX.out KX.out SX.out GX.out
      rw [e9]
      have HE := Lib.hid hend
      clear e9 hend
      exact bodyPost_ret (v := .agg #[.int .i64 key, .slice (some ⟨w4.heap.size, 0, none⟩) k k]) (by simp [results, Tryz.results20, go_sem, d0, d1]) rfl HE.out
end Go.Proofs.YthbkccagpggljaaGreat.Mx

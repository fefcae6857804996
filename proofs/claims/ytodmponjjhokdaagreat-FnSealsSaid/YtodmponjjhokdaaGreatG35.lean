import Derived.Test.YtodmponjjhokdaaGreatG32
import Derived.Deep.CutRange
import Derived.Test.YtodmponjjhokdaaGreatG34
namespace Go.Proofs.YtodmponjjhokdaaGreat.Mx
open Go.ChangeShapes Go.WideShapes Go.ChangeAt Go.RowKit
set_option linter.unusedVariables false
def QBox (w : World) (base p : Nat) (key : Int) (v : Value) (zs : List Int) : Prop :=
 base ≤ w.heap.size ∧ v.ownBlock ≠ some p ∧ CellsAt w p 26 #[.int .i64 key, v] ∧ Row w base 2 v zs
namespace QBox
variable {w w' : World} {base p g : Nat} {key : Int} {v : Value} {zs : List Int}
theorem lt (h : QBox w base p key v zs) : p < w.heap.size := h.2.2.1.lt
theorem grown (h : QBox w base p key v zs) (hg : w.grownBy w' (some g)) (hp : g ≠ p) (hb : g < base) : QBox w' base p key v zs :=
 ⟨Nat.le_trans h.1 hg.size, h.2.1, h.2.2.1.grown hg (by intro e; injection e with e; exact hp e.symm), h.2.2.2.grown hg hb⟩
theorem alloc (h : QBox w base p key v zs) (o : Obj) : QBox (w.alloc o) base p key v zs :=
 ⟨by have := h.1; simp; omega, h.2.1, CellsAt.grown h.2.2.1 (World.grownBy_alloc w o none) (by simp), h.2.2.2.alloc o⟩
theorem drew (h : QBox w base p key v zs) : QBox w.drew base p key v zs := ⟨h.1, h.2.1, h.2.2.1.drew, ⟨h.2.2.2.1.drew, h.2.2.2.2⟩⟩
theorem grew (h : QBox w base p key v zs) (hg : w.grownBy w' v.ownBlock) : CellsAt w' p 26 #[.int .i64 key, v] ∧ Below base w w' :=
 ⟨h.2.2.1.grown hg (fun e => h.2.1 e.symm), gr_below hg h.1 (fun k hk => (h.2.2.2.1.lt k hk).1)⟩
theorem key_ (h : QBox w base p key v zs) (hb : v.ownBlock ≠ some p) (k : Int) : QBox (w.setCell ⟨p, 0, none⟩ (.int .i64 k)) base p k v zs :=
 ⟨by have := h.1; simp [World.setCell]; omega, hb, h.2.2.1.set_ 0 (.int .i64 k), by
  refine ⟨h.2.2.2.1.kept (gb_set (gb_refl w (some p)) 0 (.int .i64 k)) ?_, h.2.2.2.2⟩
  cases e : v.ownBlock with
  | none => exact .inl rfl
  | some j => exact .inr (by rw [← e]; exact hb)⟩
theorem row_ {u v' : Value} {ys : List Int} (hb : base ≤ w.heap.size) (hc : CellsAt w p 26 #[.int .i64 key, u]) (hv : v'.ownBlock ≠ some p) (hr : Row w base 2 v' ys) :
    QBox (w.setCell ⟨p, 1, none⟩ v') base p key v' ys :=
 ⟨by simp [World.setCell]; omega, hv, hc.set_ 1 v', by
  refine ⟨hr.1.kept (gb_set (gb_refl w (some p)) 1 v') ?_, hr.2⟩
  cases e : v'.ownBlock with
  | none => exact .inl rfl
  | some j => exact .inr (by rw [← e]; exact hv)⟩
end QBox
theorem plan_end {b w w3 : World} {g p n : Nat} {A : Option Addr} {l : List Int} {cap : Nat} {key : Int} {v : Value} {zs : List Int} (hn : zs.length ≤ n) (hg : g < w.heap.size)
    (hq : QBox w3 (w.heap.size + 1) p key v zs) (hk : CellsAt w3 w.heap.size 26 #[.int .i64 0, .slice none 0 0]) (hs : St b g A l cap w3) (hG : w.grownBy w3 (some g)) :
    ∃ w4, (w3.setCell ⟨w.heap.size, 0, none⟩ (.int .i64 key)).setCell ⟨w.heap.size, 1, none⟩ v = w4 ∧ (w4.cell? ⟨w.heap.size, 0, none⟩ = some (.int .i64 key) ∧ w4.cell? ⟨w.heap.size, 1, none⟩ = some v) ∧
      PlanR n b w g A l cap (.returned (.agg #[.int .i64 key, v])) w4 := by
 have hk' := (hk.set_ 0 (.int .i64 key)).set_ 1 v
 have hr := (hq.2.2.2.grown (gb_set (gb_refl w3 (some w.heap.size)) 0 (.int .i64 key)) (by omega)).grown (gb_set (gb_refl _ (some w.heap.size)) 1 v) (by omega)
 exact ⟨_, rfl, ⟨hk'.cell 0, hk'.cell 1⟩, key, v, zs, rfl, hn, hr.mono (by omega), (hs.set hg 0 (.int .i64 key)).set hg 1 v, gb_new (gb_new hG (Nat.le_refl _) 0 (.int .i64 key)) (Nat.le_refl _) 1 v⟩
set_option maxRecDepth 20000 in
set_option maxHeartbeats 2000000 in
theorem draw5Any_calls (v : World) (g : Nat) (A : Option Addr) (l : List Int) (cap : Nat) (w : World) (hn : l.length ≤ maxLen) (h : St v g A l cap w) :
    Calls Tryz.prog 36 #[.pointer (some ⟨g, 0, none⟩)] w (PlanR 5 v w g A l cap) := by
 have HN := Lib.hid hn
 have HS := Lib.hid h
 have HL := h.2.lt
 clear hn h
 obtain ⟨i0, hi, hz0, hz1, hz2⟩ := info_parts info_n64
 go_enter Tryz.func36, Tryz.ntmps36
 go_wp2_with fail
 refine (draw5_calls v g A l cap _ HN.out (HS.out.alloc _)).mono ?_; rintro e w1 ⟨key, u, zs, rfl, hz, r1, s1, g1⟩
 have S1 := Lib.hid s1
 have G1 := Lib.hid (gb_trans (gb_alloc (gb_refl w (some g)) _) g1)
 have K1 := Lib.hid ((CellsAt.new w 26 #[.int .i64 0, .slice none 0 0]).grown g1 (by intro e; injection e with e; omega))
 have z1 : w.heap.size < w1.heap.size := by have := g1.size; simp at this; omega
 have R1 := Lib.hid (show Row w1 (w.heap.size + 1) 2 u zs from by simpa using r1)
 obtain ⟨q, c, hq, -⟩ := r1.reads
 subst hq
 clear s1 g1 r1
 have Q1 := Lib.hid (show QBox (w1.alloc (.cells #[.int .i64 key, .slice q zs.length c] 26)) (w.heap.size + 1) w1.heap.size key (.slice q zs.length c) zs from
  ⟨by simp; omega, by intro e; have := (R1.out.1.lt _ e).2; omega, CellsAt.new _ _ _, R1.out.alloc _⟩)
 go_wp2_with fail
 refine (once_st v g A l cap 8 _ HN.out (S1.out.alloc _) (by omega)).mono ?_; rintro e w2 ⟨b, rfl, s2, g2⟩
 have S2 := Lib.hid s2
 have G2 := Lib.hid (gb_trans (gb_alloc G1.out (.cells #[.int .i64 key, .slice q zs.length c] 26)) g2)
 have K2 := Lib.hid ((CellsAt.grown K1.out (World.grownBy_alloc w1 (.cells #[.int .i64 key, .slice q zs.length c] 26) none) (by simp)).grown g2 (by intro e; injection e with e; omega))
 have Q2 := Lib.hid (Q1.out.grown g2 (by omega) (by omega))
 clear s2 g2 Q1 K1 S1 G1 R1
 rcases b with _ | _
 ·go_upto_region 14 with fail
  have c0 : w2.cell? ⟨w1.heap.size, 0, none⟩ = some (.int .i64 key) := Q2.out.2.2.1.cell 0
  have c1 : w2.cell? ⟨w1.heap.size, 1, none⟩ = some (.slice q zs.length c) := Q2.out.2.2.1.cell 1
  have r0 : w2.cell? ⟨w.heap.size, 0, none⟩ = some (.int .i64 0) := K2.out.cell 0
  have r1 : w2.cell? ⟨w.heap.size, 1, none⟩ = some (.slice none 0 0) := K2.out.cell 1
  have f0 := K2.out.frozen 0
  have f1 := K2.out.frozen 1
  go_wp2_with fail
  obtain ⟨w9, e9, ⟨d0, d1⟩, hend⟩ := plan_end (n := 5) (by omega) HL Q2.out K2.out S2.out G2.out
  rw [e9]
  have HE := Lib.hid hend
  clear e9 hend
  exact bodyPost_ret (v := .agg #[.int .i64 key, .slice q zs.length c]) (by simp [results, Tryz.results36, go_sem, d0, d1]) rfl HE.out
 ·go_wp2_with fail
  refine (below_st v g A l cap 4 w2 HN.out S2.out (by omega)).mono ?_; rintro e w3 ⟨n, rfl, ⟨n0, n1⟩, s3, g3⟩
  have S3 := Lib.hid s3
  have G3 := Lib.hid (gb_trans G2.out g3)
  have K3 := Lib.hid (K2.out.grown g3 (by intro e; injection e with e; omega))
  have Q3 := Lib.hid (Q2.out.grown g3 (by omega) (by omega))
  clear s3 g3 Q2 K2 S2 G2
  have hn4 : n = 0 ∨ n = 1 ∨ n = 2 ∨ n = 3 := by omega
  clear n0 n1
  rcases hn4 with rfl | rfl | rfl | rfl
  ·go_wp2_with fail
   refine (num_st v g A l cap 1000000 w3 HN.out S3.out (by omega) (by omega)).mono ?_; rintro e w4 ⟨x, rfl, -, s4, g4⟩
   have Q4 := Q3.out.grown g4 (by omega) (by omega)
   have c0 : w4.cell? ⟨w1.heap.size, 0, none⟩ = some (.int .i64 key) := Q4.2.2.1.cell 0
   have f0 := Q4.2.2.1.frozen 0
   have QX := Lib.hid (Q4.key_ Q4.2.1 x)
   have KX := Lib.hid ((K3.out.grown g4 (by intro e; injection e with e; omega)).grown (gb_set (gb_refl w4 (some w1.heap.size)) 0 (.int .i64 x)) (by intro e; injection e with e; omega))
   have SX := Lib.hid (s4.set (show g < w1.heap.size by omega) 0 (.int .i64 x))
   have GX := Lib.hid (gb_new (gb_trans G3.out g4) (show w.heap.size ≤ w1.heap.size by omega) 0 (.int .i64 x))
   clear Q4 s4 g4 Q3 K3 S3 G3
   go_upto_region 14 with fail
   clear c0 f0
   generalize World.setCell _ _ _ = wX at QX KX SX GX ⊢
   have c0 : wX.cell? ⟨w1.heap.size, 0, none⟩ = some (.int .i64 x) := QX.out.2.2.1.cell 0
   have c1 : wX.cell? ⟨w1.heap.size, 1, none⟩ = some (.slice q zs.length c) := QX.out.2.2.1.cell 1
   have r0 : wX.cell? ⟨w.heap.size, 0, none⟩ = some (.int .i64 0) := KX.out.cell 0
   have r1 : wX.cell? ⟨w.heap.size, 1, none⟩ = some (.slice none 0 0) := KX.out.cell 1
   have f0 := KX.out.frozen 0
   have f1 := KX.out.frozen 1
   go_wp2_with fail
   obtain ⟨w9, e9, ⟨d0, d1⟩, hend⟩ := plan_end (n := 5) (by omega) HL QX.out KX.out SX.out GX.out
   rw [e9]
   have HE := Lib.hid hend
   clear e9 hend
   exact bodyPost_ret (v := .agg #[.int .i64 x, .slice q zs.length c]) (by simp [results, Tryz.results36, go_sem, d0, d1]) rfl HE.out
  ·go_upto_region 7 with fail
   have c1 : w3.cell? ⟨w1.heap.size, 1, none⟩ = some (.slice q zs.length c) := Q3.out.2.2.1.cell 1
   go_region_law (first
    | (refine step_append_lies _ (by rfl) _ _ _ (by rfl) (w.heap.size + 1) 2 i0 _ 1 8 Tryz.underlying24 hi hz0 hz1 hz2 rfl (by omega) (.slice q zs.length c) zs.length (zs.map (Value.int .i64)) (by rfl) (PX.out.alloc _).2.2.2.1
        ⟨wx.heap.size, 0, none⟩ 1 1 [.int .i64 y] (by rfl) (by rfl) (World.news_of_block (cs := #[.int .i64 y]) (t := 2) (fr := (0, 0)) (heap_alloc_new wx _)) (by simp [Value.oneCell'])
        (by omega) (by unfold maxLen; omega) (by omega) (by have := PX.out.1; simp; omega) (wx.heap.size + 1) (by simp) ?_
       intro gg cc wy hown hgrow hat hlt2
       have hpg := (PX.out.alloc (.cells #[.int .i64 y] 2)).grew hgrow
       have d1 : wy.cell? ⟨w1.heap.size, 1, none⟩ = some (.slice q zs.length c) := hpg.1.cell 1
       have d2 := hpg.1.frozen 1
       have hne : (Value.slice (some ⟨gg, 0, none⟩) (zs.length + 1) cc).ownBlock ≠ some w1.heap.size := by
        rcases hat with h | h
        ·intro e; exact PX.out.2.1 (h.trans e)
        ·intro e; have e2 : gg = w1.heap.size := Option.some.inj e; have := PX.out.lt; omega
       have PY := Lib.hid (QBox.row_ (key := key) (Nat.le_trans (PX.out.alloc (.cells #[.int .i64 y] 2)).1 hgrow.size) hpg.1 hne (Row.snoc PX.out.2.2.2.2 (by omega) (by omega) hown))
       have BY := Lib.hid hpg.2
       clear hown hgrow hat hlt2 hpg hne)
    | (go_simp; go_at_call 56; refine (from_st v g A l cap 0 9 _ HN.out ?_ (by omega) (by omega) (by omega)).mono ?_; exact S3.out.drew; rintro e wx ⟨y, rfl, ⟨y0, y1⟩, sx, gx⟩
       have PX := Lib.hid (Q3.out.drew.grown gx (by omega) (by omega))
       have SX := Lib.hid sx
       have GX := Lib.hid (gb_trans (gb_drew G3.out) gx)
       have KX := Lib.hid (K3.out.drew.grown gx (by intro e; injection e with e; omega))
       have e1 : wx.cell? ⟨w1.heap.size, 1, none⟩ = some (.slice q zs.length c) := PX.out.2.2.1.cell 1
       have e2 : ∀ o, (wx.alloc o).cell? ⟨w1.heap.size, 1, none⟩ = some (.slice q zs.length c) := fun o => (PX.out.alloc o).2.2.1.cell 1
       clear sx gx))
   all_goals
    have SY := Lib.hid (((SX.out.alloc (.cells #[.int .i64 y] 2)).below BY.out (by omega)).set (show g < w1.heap.size by omega) 1 (.slice (some ⟨gg, 0, none⟩) (zs.length + 1) cc))
    have KY := Lib.hid (((CellsAt.grown KX.out (World.grownBy_alloc wx (.cells #[.int .i64 y] 2) none) (by simp)).below BY.out (by omega)).grown (gb_set (gb_refl wy (some w1.heap.size)) 1 (.slice (some ⟨gg, 0, none⟩) (zs.length + 1) cc)) (by intro e; injection e with e; omega))
    have GY := Lib.hid (gb_new (gb_blw (gb_alloc GX.out (.cells #[.int .i64 y] 2)) (BY.out.mono (by omega))) (show w.heap.size ≤ w1.heap.size by omega) 1 (.slice (some ⟨gg, 0, none⟩) (zs.length + 1) cc))
    clear SX KX GX BY PX d1 d2 e1 e2 c1
    go_upto_region 14 with fail
    generalize World.setCell _ _ _ = wX at PY KY SY GY ⊢
    have c0 : wX.cell? ⟨w1.heap.size, 0, none⟩ = some (.int .i64 key) := PY.out.2.2.1.cell 0
    have c1 : wX.cell? ⟨w1.heap.size, 1, none⟩ = some (.slice (some ⟨gg, 0, none⟩) (zs.length + 1) cc) := PY.out.2.2.1.cell 1
    have r0 : wX.cell? ⟨w.heap.size, 0, none⟩ = some (.int .i64 0) := KY.out.cell 0
    have r1 : wX.cell? ⟨w.heap.size, 1, none⟩ = some (.slice none 0 0) := KY.out.cell 1
    have f0 := KY.out.frozen 0
    have f1 := KY.out.frozen 1
    go_wp2_with fail
    obtain ⟨w9, e9, ⟨d0, d1⟩, hend⟩ := plan_end (n := 5) (zs := zs ++ [y]) (by simp; omega) HL PY.out KY.out SY.out GY.out
    rw [e9]
    have HE := Lib.hid hend
    clear e9 hend
    exact bodyPost_ret (v := .agg #[.int .i64 key, .slice (some ⟨gg, 0, none⟩) (zs.length + 1) cc]) (by simp [results, Tryz.results36, go_sem, d0, d1]) rfl HE.out
  ·have q3 := Q3.out.alloc (.cells #[.int .i64 8, .int .i64 8, .int .i64 8] 2)
   have c1 : (w3.alloc (.cells #[.int .i64 8, .int .i64 8, .int .i64 8] 2)).cell? ⟨w1.heap.size, 1, none⟩ = some (.slice q zs.length c) := q3.2.2.1.cell 1
   have f1 := q3.2.2.1.frozen 1
   have R4 : Row (w3.alloc (.cells #[.int .i64 8, .int .i64 8, .int .i64 8] 2)) (w.heap.size + 1) 2 (.slice (some ⟨w3.heap.size, 0, none⟩) 3 3) [8, 8, 8] :=
    ⟨World.ownsRow_lit w3 #[.int .i64 8, .int .i64 8, .int .i64 8] 3 Q3.out.1 (by simp [maxLen]) rfl, by repeat (first | exact I64s.nil | refine I64s.cons (by omega) (by omega) ?_)⟩
   have QX := Lib.hid (QBox.row_ (key := key) q3.1 q3.2.2.1 (by intro e; have e2 : w3.heap.size = w1.heap.size := Option.some.inj e; have := Q3.out.lt; omega) R4)
   have KX := Lib.hid ((CellsAt.grown K3.out (World.grownBy_alloc w3 (.cells #[.int .i64 8, .int .i64 8, .int .i64 8] 2) none) (by simp)).grown (gb_set (gb_refl _ (some w1.heap.size)) 1 (.slice (some ⟨w3.heap.size, 0, none⟩) 3 3)) (by intro e; injection e with e; omega))
   have SX := Lib.hid ((S3.out.alloc (.cells #[.int .i64 8, .int .i64 8, .int .i64 8] 2)).set (show g < w1.heap.size by omega) 1 (.slice (some ⟨w3.heap.size, 0, none⟩) 3 3))
   have GX := Lib.hid (gb_new (gb_alloc G3.out (.cells #[.int .i64 8, .int .i64 8, .int .i64 8] 2)) (show w.heap.size ≤ w1.heap.size by omega) 1 (.slice (some ⟨w3.heap.size, 0, none⟩) 3 3))
   clear q3 R4 K3 S3 G3
   go_wp2_with fail
   clear c1 f1
   generalize World.setCell _ _ _ = wX at QX KX SX GX ⊢
   refine (once_st v g A l cap 2 wX HN.out SX.out (by omega)).mono ?_; rintro e w4 ⟨b, rfl, s4, g4⟩
   have S4 := Lib.hid s4
   have G4 := Lib.hid (gb_trans GX.out g4)
   have K4 := Lib.hid (KX.out.grown g4 (by intro e; injection e with e; omega))
   have Q4 := Lib.hid (QX.out.grown g4 (by omega) (by omega))
   have z4 : w1.heap.size < w4.heap.size := Q4.out.lt
   clear s4 g4 QX KX SX GX
   generalize w3.heap.size = h3 at Q4 ⊢
   clear Q3
   rcases b with _ | _
   ·go_upto_region 14 with fail
    have c0 : w4.cell? ⟨w1.heap.size, 0, none⟩ = some (.int .i64 key) := Q4.out.2.2.1.cell 0
    have c1 : w4.cell? ⟨w1.heap.size, 1, none⟩ = some (.slice (some ⟨h3, 0, none⟩) 3 3) := Q4.out.2.2.1.cell 1
    have r0 : w4.cell? ⟨w.heap.size, 0, none⟩ = some (.int .i64 0) := K4.out.cell 0
    have r1 : w4.cell? ⟨w.heap.size, 1, none⟩ = some (.slice none 0 0) := K4.out.cell 1
    have f0 := K4.out.frozen 0
    have f1 := K4.out.frozen 1
    go_wp2_with fail
    obtain ⟨w9, e9, ⟨d0, d1⟩, hend⟩ := plan_end (n := 5) (by simp) HL Q4.out K4.out S4.out G4.out
    rw [e9]
    have HE := Lib.hid hend
    clear e9 hend
    exact bodyPost_ret (v := .agg #[.int .i64 key, .slice (some ⟨h3, 0, none⟩) 3 3]) (by simp [results, Tryz.results36, go_sem, d0, d1]) rfl HE.out
   ·have e1 : w4.cell? ⟨w1.heap.size, 1, none⟩ = some (.slice (some ⟨h3, 0, none⟩) 3 3) := Q4.out.2.2.1.cell 1
    go_upto_region 11 with fail
    go_wp2_with (at_builtin; refine wpList_append_lies _ rfl _ _ 24 rfl (w.heap.size + 1) 2 i0 (.int .i64 0) 1 8 Tryz.underlying24 hi hz0 hz1 hz2 rfl (by omega) (.slice (some ⟨h3, 0, none⟩) 3 3) 3 ([8, 8, 8].map (Value.int .i64)) rfl (Q4.out.alloc _).2.2.2.1 ⟨w4.heap.size, 0, none⟩ 1 1 [.int .i64 1] rfl rfl (World.news_of_block (cs := #[.int .i64 1]) (t := 2) (fr := (0, 0)) (heap_alloc_new w4 _)) (by simp [Value.oneCell']) (by omega) (by simp [maxLen]) (by omega) ?e1 (w4.heap.size + 1) (by simp) ?_)
    case e1 => have := Q4.out.1; simp; omega
    intro gg cc wy hown hgrow hat hlt2
    have hpg := (Q4.out.alloc (.cells #[.int .i64 1] 2)).grew hgrow
    have d1 : wy.cell? ⟨w1.heap.size, 1, none⟩ = some (.slice (some ⟨h3, 0, none⟩) 3 3) := hpg.1.cell 1
    have d2 := hpg.1.frozen 1
    have hne : (Value.slice (some ⟨gg, 0, none⟩) (3 + 1) cc).ownBlock ≠ some w1.heap.size := by
     rcases hat with h | h
     ·intro e; exact Q4.out.2.1 (h.trans e)
     ·intro e; have e2 : gg = w1.heap.size := Option.some.inj e; omega
    have PY := Lib.hid (QBox.row_ (key := key) (Nat.le_trans (Q4.out.alloc (.cells #[.int .i64 1] 2)).1 hgrow.size) hpg.1 hne (Row.snoc (zs := [8, 8, 8]) Q4.out.2.2.2.2 (by omega) (by omega) hown))
    have SY := Lib.hid (((S4.out.alloc (.cells #[.int .i64 1] 2)).below hpg.2 (by omega)).set (show g < w1.heap.size by omega) 1 (.slice (some ⟨gg, 0, none⟩) (3 + 1) cc))
    have KY := Lib.hid (((CellsAt.grown K4.out (World.grownBy_alloc w4 (.cells #[.int .i64 1] 2) none) (by simp)).below hpg.2 (by omega)).grown (gb_set (gb_refl wy (some w1.heap.size)) 1 (.slice (some ⟨gg, 0, none⟩) (3 + 1) cc)) (by intro e; injection e with e; omega))
    have GY := Lib.hid (gb_new (gb_blw (gb_alloc G4.out (.cells #[.int .i64 1] 2)) (hpg.2.mono (by omega))) (show w.heap.size ≤ w1.heap.size by omega) 1 (.slice (some ⟨gg, 0, none⟩) (3 + 1) cc))
    clear hown hgrow hat hlt2 hpg hne S4 K4 G4 Q4 e1
    go_upto_region 14 with fail
    generalize World.setCell _ _ _ = wX at PY KY SY GY ⊢
    have c0 : wX.cell? ⟨w1.heap.size, 0, none⟩ = some (.int .i64 key) := PY.out.2.2.1.cell 0
    have c1 : wX.cell? ⟨w1.heap.size, 1, none⟩ = some (.slice (some ⟨gg, 0, none⟩) (3 + 1) cc) := PY.out.2.2.1.cell 1
    have r0 : wX.cell? ⟨w.heap.size, 0, none⟩ = some (.int .i64 0) := KY.out.cell 0
    have r1 : wX.cell? ⟨w.heap.size, 1, none⟩ = some (.slice none 0 0) := KY.out.cell 1
    have f0 := KY.out.frozen 0
    have f1 := KY.out.frozen 1
    go_wp2_with fail
    obtain ⟨w9, e9, ⟨d0, d1⟩, hend⟩ := plan_end (n := 5) (zs := [8, 8, 8] ++ [1]) (by simp) HL PY.out KY.out SY.out GY.out
    rw [e9]
    have HE := Lib.hid hend
    clear e9 hend
    exact bodyPost_ret (v := .agg #[.int .i64 key, .slice (some ⟨gg, 0, none⟩) (3 + 1) cc]) (by simp [results, Tryz.results36, go_sem, d0, d1]) rfl HE.out
  ·go_wp2_with fail
   refine (below_st v g A l cap 6 w3 HN.out S3.out (by omega)).mono ?_; rintro e w4 ⟨n, rfl, ⟨n0, n1⟩, s4, g4⟩
   obtain ⟨k, rfl⟩ := Int.eq_ofNat_of_zero_le n0
   have hk6 : k ≤ 5 := by omega
   have S4 := Lib.hid s4
   have G4 := Lib.hid (gb_trans G3.out g4)
   have K4 := Lib.hid (K3.out.grown g4 (by intro e; injection e with e; omega))
   have Q4 := Lib.hid (Q3.out.grown g4 (by omega) (by omega))
   have z4 : w1.heap.size < w4.heap.size := Q4.out.lt
   clear s4 g4 Q3 K3 S3 G3 n0 n1
   have hmk := run_make_row' (P := Tryz.prog) 24 2 (.int .i64 0) 8 Tryz.underlying24 info_n64 rfl .i64 .i64 k (by omega) (by omega)
   have q4 := Q4.out.alloc (.cells (madeCells #[.int .i64 0] k) 2)
   have c1 : (w4.alloc (.cells (madeCells #[.int .i64 0] k) 2)).cell? ⟨w1.heap.size, 1, none⟩ = some (.slice q zs.length c) := q4.2.2.1.cell 1
   have f1 := q4.2.2.1.frozen 1
   have hmade : (madeCells #[Value.int .i64 0] k).toList = (List.replicate k (0 : Int)).map (Value.int .i64) := by
    refine List.ext_getElem (by simp [size_madeCells]) fun i h1 h2 => ?_
    simp [madeCells, Nat.mod_one]
   have R4 : Row (w4.alloc (.cells (madeCells #[.int .i64 0] k) 2)) (w.heap.size + 1) 2 (.slice (some ⟨w4.heap.size, 0, none⟩) k k) (List.replicate k 0) := by
    have h := World.ownsRow_lit (base := w.heap.size + 1) (e := 2) (size := 1) w4 (madeCells #[.int .i64 0] k) k Q4.out.1 (by simp [maxLen]; omega) (by simp [size_madeCells])
    rw [hmade] at h
    refine ⟨by rw [List.length_replicate]; exact h, fun i hi => ?_⟩
    rw [List.length_replicate] at hi
    rw [List.getD_eq_getElem?_getD, List.getElem?_replicate, if_pos hi]
    exact ⟨by decide, by decide⟩
   have QX := Lib.hid (QBox.row_ (key := key) q4.1 q4.2.2.1 (by intro e; have e2 : w4.heap.size = w1.heap.size := Option.some.inj e; omega) R4)
   have KX := Lib.hid ((CellsAt.grown K4.out (World.grownBy_alloc w4 (.cells (madeCells #[.int .i64 0] k) 2) none) (by simp)).grown (gb_set (gb_refl _ (some w1.heap.size)) 1 (.slice (some ⟨w4.heap.size, 0, none⟩) k k)) (by intro e; injection e with e; omega))
   have SX := Lib.hid ((S4.out.alloc (.cells (madeCells #[.int .i64 0] k) 2)).set (show g < w1.heap.size by omega) 1 (.slice (some ⟨w4.heap.size, 0, none⟩) k k))
   have GX := Lib.hid (gb_new (gb_alloc G4.out (.cells (madeCells #[.int .i64 0] k) 2)) (show w.heap.size ≤ w1.heap.size by omega) 1 (.slice (some ⟨w4.heap.size, 0, none⟩) k k))
   clear q4 hmade R4 Q4 K4 S4 G4 z4
   go_upto_region 14 with fail
   clear hmk c1 f1
   generalize World.setCell _ _ _ = wX at QX KX SX GX ⊢
   have c0 : wX.cell? ⟨w1.heap.size, 0, none⟩ = some (.int .i64 key) := QX.out.2.2.1.cell 0
   have c1 : wX.cell? ⟨w1.heap.size, 1, none⟩ = some (.slice (some ⟨w4.heap.size, 0, none⟩) k k) := QX.out.2.2.1.cell 1
   have r0 : wX.cell? ⟨w.heap.size, 0, none⟩ = some (.int .i64 0) := KX.out.cell 0
   have r1 : wX.cell? ⟨w.heap.size, 1, none⟩ = some (.slice none 0 0) := KX.out.cell 1
   have f0 := KX.out.frozen 0
   have f1 := KX.out.frozen 1
   go_wp2_with fail
   obtain ⟨w9, e9, ⟨d0, d1⟩, hend⟩ := plan_end (n := 5) (by simp; omega) HL QX.out KX.out SX.out GX.out
   rw [e9]
   have HE := Lib.hid hend
   clear e9 hend
   exact bodyPost_ret (v := .agg #[.int .i64 key, .slice (some ⟨w4.heap.size, 0, none⟩) k k]) (by simp [results, Tryz.results36, go_sem, d0, d1]) rfl HE.out
end Go.Proofs.YtodmponjjhokdaaGreat.Mx
namespace Go.Proofs.YtodmponjjhokdaaGreat.Mx
open Go.ChangeShapes Go.WideShapes Go.ChangeAt Go.RowKit
set_option linter.unusedVariables false
theorem Row.keptO {w w' : World} {base t p : Nat} {v : Value} {zs : List Int} (h : Row w base t v zs) (hg : w.grownBy w' (some p)) (hp : v.ownBlock ≠ some p) : Row w' base t v zs :=
 ⟨h.1.kept hg (by cases e : v.ownBlock with | none => exact .inl rfl | some j => exact .inr (by rw [← e]; exact hp)), h.2⟩
section
variable {v w u u' : World} {g p q : Nat} {A : Option Addr} {l : List Int} {cap : Nat} {key : Int} {Q : Option Addr} {zs : List Int} {c : Nat} {t : Tru}
end
end Go.Proofs.YtodmponjjhokdaaGreat.Mx
namespace Go.Proofs.YtodmponjjhokdaaGreat.Mx
open Go.ChangeShapes Go.WideShapes Go.ChangeAt Go.RowKit
set_option linter.unusedVariables false
def SeaS (v w : World) (g : Nat) (A : Option Addr) (l : List Int) (cap : Nat) (e : Ending) (w' : World) : Prop :=
 ∃ (key : Int) (Q : Option Addr) (zs : List Int) (c : Nat) (x : Int) (B : Option Addr) (L : List Tru) (tc : Nat), e = .returned (.tuple #[.agg #[.int .i64 key, .slice Q zs.length c], .int .i64 x, .slice B L.length tc]) ∧ I64 x ∧ zs.length ≤ 5 ∧ zs.length ≤ c ∧ TrusI L ∧ L.length ≤ 4 ∧ Row w' w.heap.size 2 (.slice Q zs.length c) zs ∧ TrB w' w.heap.size w'.heap.size B L ∧ St v g A l cap w' ∧ w.grownBy w' (some g)
def T10 (v w : World) (g : Nat) (A : Option Addr) (l : List Int) (cap bv gt : Nat) (VC : Array Value) (Q : Option Addr) (zs : List Int) (c : Nat) (Lr : List Tru) (d : Nat) (u : World) : Prop :=
 KG w v g A l cap [(bv, 68, VC), (w.heap.size, 26, #[.int .i64 0, .slice none 0 0])] u ∧ RowB u (w.heap.size + 1) bv Q zs c ∧ (w.heap.size < bv ∧ w.heap.size < gt ∧ gt < bv) ∧ zs.length ≤ 5 ∧ zs.length ≤ c ∧ TrRow u (w.heap.size + 1) (.slice (some ⟨gt, 0, none⟩) Lr.length d) Lr ∧ TrusI Lr ∧ (Value.slice Q zs.length c).ownBlock ≠ some gt
section
variable {v w u u' : World} {g : Nat} {A : Option Addr} {l : List Int} {cap bv gt : Nat} {VC : Array Value} {Q : Option Addr} {zs : List Int} {c : Nat} {Lr : List Tru} {d : Nat} {key : Int}
theorem T10.step (h : T10 v w g A l cap bv gt VC Q zs c Lr d u) (hs : St v g A l cap u') (hg : u.grownBy u' (some g)) : T10 v w g A l cap bv gt VC Q zs c Lr d u' := by
 obtain ⟨h1, h2, h3, h4, h5, h6, h7⟩ := h
 have hlt := h1.2.2.1
 exact ⟨h1.step hs hg, h2.grown hg (.inl (by omega)), h3, h4, h5, SRow.grown h6 hg (by omega), h7⟩
theorem T10.drew (h : T10 v w g A l cap bv gt VC Q zs c Lr d u) : T10 v w g A l cap bv gt VC Q zs c Lr d u.drew := ⟨h.1.drew, h.2.1.drew, h.2.2.1, h.2.2.2.1, h.2.2.2.2.1, h.2.2.2.2.2.1.drew, h.2.2.2.2.2.2⟩
theorem T10.trb (h : T10 v w g A l cap bv gt VC Q zs c Lr d u) : TrB u (w.heap.size + 1) bv (some ⟨gt, 0, none⟩) Lr := by
 obtain ⟨h1, h2, ⟨h3, h4, h5⟩, h6, h7, h8, h9, h10⟩ := h
 intro i hi
 obtain ⟨b, off, e, ha, hb, hc⟩ := TrB.of_row h8 i hi
 refine ⟨b, off, e, ha, ?_, hc⟩
 injection e with e
 injection e with e1
 omega
theorem T10.t0 (h : T10 v w g A l cap bv gt VC Q zs c Lr d u) {x : Int} (hx : I64 x) (hp : 0 < Lr.length) : T10 v w g A l cap bv gt VC Q zs c (Lr.set 0 { Lr.getD 0 default with clock := x }) d (u.setCell ⟨gt, 0, none⟩ (.int .i64 x)) := by
 obtain ⟨h1, h2, ⟨h3, h4, h5⟩, h6, h7, h8, h9, h10⟩ := h
 obtain ⟨a0, a1, a2, a3, a4, a5, a6⟩ := h9 0 hp
 have hg := gb_set (gb_refl u (some gt)) 0 (.int .i64 x)
 have hr := TrRow.set1 h8 hp (j := 0) (by omega) { Lr.getD 0 default with clock := x } (.int .i64 x) rfl
 rw [show 0 * 8 + 0 = 0 from rfl] at hr
 have hgg := h1.2.2.1
 refine ⟨⟨gb_put h1.1 hg (by omega), h1.2.1.off hg (by omega), h1.2.2.1, fun y hy => ⟨(h1.2.2.2 y hy).1, (h1.2.2.2 y hy).2.grown hg ?_⟩⟩, ⟨h2.1.keptO hg h10, h2.2⟩, ⟨h3, h4, h5⟩, h6, h7, by rw [List.length_set]; exact hr, h9.set 0 ⟨hx, a1, a2, a3, a4, a5, a6⟩, h10⟩
 intro e
 injection e with e
 simp at hy
 rcases hy with rfl | rfl <;> (simp only [] at e; omega)
theorem T10.frz (h : T10 v w g A l cap bv gt VC Q zs c Lr d u) (hp : 0 < Lr.length) : u.frozen? ⟨gt, 0, none⟩ = false := by
 rcases h.2.2.2.2.2.1.2 with ⟨e, _⟩ | ⟨k, cap', cur, e, _, hk, _⟩
 ·cases e
 ·simp only [Value.slice.injEq, Option.some.injEq, Addr.mk.injEq] at e
  obtain ⟨⟨rfl, -, -⟩, -⟩ := e
  exact (show CellsAt u gt 43 cur from hk).frozen 0
theorem T10.clk (h : T10 v w g A l cap bv gt VC Q zs c Lr d u) (hp : 0 < Lr.length) : u.cell? ⟨gt, 0, none⟩ = some (.int .i64 (Lr.getD 0 default).clock) := by
 obtain ⟨b, off, e, _, hc⟩ := Trs.at_ (T10.trb h).trs hp
 injection e with e
 injection e with e1 e2
 subst e1 e2
 simpa using hc.1
theorem T10.end_ (h : T10 v w g A l cap bv gt VC Q zs c Lr d u) {key x : Int} {B : Option Addr} {L : List Tru} {tc : Nat} (hx : I64 x) (hT : TrB u (w.heap.size + 1) bv B L) (hI : TrusI L) (h4 : L.length ≤ 4) :
    ∃ w4, ((u.setCell ⟨w.heap.size, 0, none⟩ (.int .i64 key)).setCell ⟨w.heap.size, 1, none⟩ (.slice Q zs.length c)) = w4 ∧ (∀ i, w4.cell? ⟨w.heap.size, i, none⟩ = #[.int .i64 key, .slice Q zs.length c][i]?) ∧ SeaS v w g A l cap (.returned (.tuple #[.agg #[.int .i64 key, .slice Q zs.length c], .int .i64 x, .slice B L.length tc])) w4 := by
 obtain ⟨h1, h2, ⟨h3, h3', h3''⟩, h6, h7, h8, h9, h10⟩ := h
 have p1 := plan_put (x0 := .int .i64 key) (x1 := .slice Q zs.length c) (h1.at_ (p := w.heap.size) (t := 26) (cs := #[.int .i64 0, .slice none 0 0]) (by simp))
 have k1 := h1.put (k := 1) rfl (by unfold Apart; simp <;> omega) p1.2 p1.1
 have r1 := h2.grown p1.2 (.inl (by omega))
 have t1 := hT.grown p1.2 (.inl (by omega))
 have lv := k1.lt (x := (bv, 68, VC)) (by simp [putBox])
 exact ⟨_, rfl, (k1.at_ (p := w.heap.size) (t := 26) (cs := #[.int .i64 key, .slice Q zs.length c]) (by simp [putBox])).cell, key, Q, zs, c, x, B, L, tc, rfl, hx, h6, h7, hI, h4, r1.1.mono (by omega), t1.more (by omega) (Nat.le_of_lt lv), k1.2.1, k1.1⟩
theorem T10.end2 (h : T10 v w g A l cap bv gt VC Q zs c Lr d u) {key key' x : Int} {Q' : Option Addr} {zs' : List Int} {c' : Nat} {B : Option Addr} {L : List Tru} {tc : Nat} (hx : I64 x) (hT : TrB u (w.heap.size + 1) bv B L) (hI : TrusI L) (h4 : L.length ≤ 4) (hr : Row u (w.heap.size + 1) 2 (.slice Q' zs'.length c') zs') (hl : zs'.length ≤ 5) (hc : zs'.length ≤ c') :
    ∃ w4, ((u.setCell ⟨w.heap.size, 0, none⟩ (.int .i64 key')).setCell ⟨w.heap.size, 1, none⟩ (.slice Q' zs'.length c')) = w4 ∧ (∀ i, w4.cell? ⟨w.heap.size, i, none⟩ = #[.int .i64 key', .slice Q' zs'.length c'][i]?) ∧ SeaS v w g A l cap (.returned (.tuple #[.agg #[.int .i64 key', .slice Q' zs'.length c'], .int .i64 x, .slice B L.length tc])) w4 := by
 obtain ⟨h1, h2, ⟨h3, h3', h3''⟩, h6, h7, h8, h9, h10⟩ := h
 have p1 := plan_put (x0 := .int .i64 key') (x1 := .slice Q' zs'.length c') (h1.at_ (p := w.heap.size) (t := 26) (cs := #[.int .i64 0, .slice none 0 0]) (by simp))
 have k1 := h1.put (k := 1) rfl (by unfold Apart; simp <;> omega) p1.2 p1.1
 have r1 := hr.grown p1.2 (by omega)
 have t1 := hT.grown p1.2 (.inl (by omega))
 have lv := k1.lt (x := (bv, 68, VC)) (by simp [putBox])
 exact ⟨_, rfl, (k1.at_ (p := w.heap.size) (t := 26) (cs := #[.int .i64 key', .slice Q' zs'.length c']) (by simp [putBox])).cell, key', Q', zs', c', x, B, L, tc, rfl, hx, hl, hc, hI, h4, r1.mono (by omega), t1.more (by omega) (Nat.le_of_lt lv), k1.2.1, k1.1⟩
end
set_option maxRecDepth 20000 in
set_option maxHeartbeats 16000000 in
theorem draw10_calls (v : World) (g : Nat) (A : Option Addr) (l : List Int) (cap : Nat) (w : World) (hn : l.length ≤ 4096) (h : St v g A l cap w) :
    Calls Tryz.prog 17 #[.pointer (some ⟨g, 0, none⟩)] w (SeaS v w g A l cap) := by
 have HN := Lib.hid (show l.length ≤ maxLen by unfold maxLen; omega)
 have HM := Lib.hid hn
 have K0 := Lib.hid ((KG.start h).put1 w.heap.size 26 #[.int .i64 0, .slice none 0 0] rfl)
 have Z0 := Lib.hid (show (w.alloc (.cells #[.int .i64 0, .slice none 0 0] 26)).heap.size = w.heap.size + 1 by simp)
 clear hn h
 go_enter Tryz.func17, Tryz.ntmps17
 go_upto_region 1 with fail
 generalize World.alloc _ _ = w0 at K0 Z0 ⊢
 go_wp2_with fail
 refine (draw12_calls v g A l cap _ HM.out K0.out.2.1).mono ?_; rintro e w1 ⟨y, cs, rfl, hi, hv, s1, g1⟩
 have hk1 := K0.out.step s1 g1
 rw [Z0.out] at hv
 have hz1 : w.heap.size < w1.heap.size := hk1.lt (x := (w.heap.size, 26, #[.int .i64 0, .slice none 0 0])) (by simp)
 have h5 : y.counts.length ≤ 4 := hi.1.2.1.2
 obtain ⟨A', c', B', d', C', e', b', s', rfl, hrow, hcc, htr0⟩ := hv.open_ hi
 obtain ⟨gt, rfl, hgt0, hgt1, htr, hne⟩ := hv.trustsGet hi.pos
 have RB1 := RowB.of hrow
 have HI := Lib.hid hi
 have k2 := hk1.put1 w1.heap.size 68 #[.int .i64 y.key, .slice A' y.counts.length c', .slice (some ⟨gt, 0, none⟩) y.trusts.length d', .slice C' y.cells.length e', .slice (some ⟨b', 0, none⟩) 2 s', .int .i64 y.count] rfl
 have rb2 := RB1.below ((Below.refl _ _).alloc (Nat.le_refl _) (.cells #[.int .i64 y.key, .slice A' y.counts.length c', .slice (some ⟨gt, 0, none⟩) y.trusts.length d', .slice C' y.cells.length e', .slice (some ⟨b', 0, none⟩) 2 s', .int .i64 y.count] 68))
 have tr2 := SRow.alloc htr0 (.cells #[.int .i64 y.key, .slice A' y.counts.length c', .slice (some ⟨gt, 0, none⟩) y.trusts.length d', .slice C' y.cells.length e', .slice (some ⟨b', 0, none⟩) 2 s', .int .i64 y.count] 68)
 have hap := own_apart hrow.1 htr0 (by decide)
 have hlen : 0 < y.trusts.length := hi.pos
 have hlen4 : y.trusts.length ≤ 4 := by have := hi.2.1.2.1; omega
 have H2 := Lib.hid (show T10 v w g A l cap w1.heap.size gt #[.int .i64 y.key, .slice A' y.counts.length c', .slice (some ⟨gt, 0, none⟩) y.trusts.length d', .slice C' y.cells.length e', .slice (some ⟨b', 0, none⟩) 2 s', .int .i64 y.count] A' y.counts c' y.trusts d' _ from ⟨k2, rb2, ⟨hz1, by omega, hgt1⟩, by omega, hcc, tr2, hi.2.1.i64, hap⟩)
 clear hi hv hrow htr0 htr hne RB1 k2 rb2 tr2 hap s1 g1 hk1 HI K0 Z0
 go_upto_region 2 with fail
 generalize World.alloc w1 _ = w2 at H2 ⊢
 generalize w1.heap.size = bv at H2 ⊢
 obtain ⟨kc0, kf0, kc1, kf1, -⟩ := H2.out.1.rd
 go_wp2_with fail
 refine (below_st v g A l cap 20 w2 HN.out H2.out.1.2.1 (by omega)).mono ?_; rintro e w3 ⟨x, rfl, ⟨x0, x1⟩, s3, g3⟩
 have HX := Lib.hid (show I64 x from ⟨by omega, by omega⟩)
 have H3 := Lib.hid (H2.out.step s3 g3)
 clear kc0 kf0 kc1 kf1 s3 g3 H2 x0 x1
 go_wp2_with fail
 refine (once_st v g A l cap 5 w3 HN.out H3.out.1.2.1 (by omega)).mono ?_; rintro e w6 ⟨b, rfl, s6, g6⟩
 have H6 := Lib.hid (H3.out.step s6 g6)
 clear s6 g6 H3
 rcases b with _ | _
 case' false =>
  have H9 := H6
  have HX9 := HX
  have HT9 := Lib.hid (show TrB w6 (w.heap.size + 1) bv (some ⟨gt, 0, none⟩) y.trusts ∧ TrusI y.trusts ∧ y.trusts.length ≤ 4 from ⟨T10.trb H6.out, H6.out.2.2.2.2.2.2.1, hlen4⟩)
  clear H6 HX
  go_upto_region 14 with fail
 case' true =>
  go_wp2_with fail
  refine (below_st v g A l cap 4 w6 HN.out H6.out.1.2.1 (by omega)).mono ?_; rintro e w7 ⟨n, rfl, ⟨n0, n1⟩, s7, g7⟩
  have H7 := Lib.hid (H6.out.step s7 g7)
  clear s7 g7 H6
  have hn7 : n = 0 ∨ n = 1 ∨ n = 2 ∨ n = 3 := by omega
  clear n0 n1
  rcases hn7 with rfl | rfl | rfl | rfl
 case' inl =>
  go_wp2_with fail
  refine (num_st v g A l cap 10000 w7 HN.out H7.out.1.2.1 (by omega) (by omega)).mono ?_; rintro e w8 ⟨x2, rfl, ⟨i0, i1⟩, s8, g8⟩
  have H9 := Lib.hid (H7.out.step s8 g8)
  have HX9 := Lib.hid (show I64 x2 from ⟨by omega, by omega⟩)
  have HT9 := Lib.hid (show TrB w8 (w.heap.size + 1) bv (some ⟨gt, 0, none⟩) y.trusts ∧ TrusI y.trusts ∧ y.trusts.length ≤ 4 from ⟨T10.trb H9.out, H9.out.2.2.2.2.2.2.1, hlen4⟩)
  clear s8 g8 H7 HX i0 i1
  go_upto_region 14 with fail
 case' inr.inl =>
  have hl1 : (1 : Int) ≤ y.trusts.length := by omega
  go_upto_region 14 with fail
  have hl2 : IntKind.i64.wrap ((y.trusts.length : Int) - 1) = (y.trusts.length : Int) - 1 := IntWalk.i64_in _ (by omega)
  have hld : y.trusts.length ≤ d' := by
   rcases H7.out.2.2.2.2.2.1.2 with ⟨e, _⟩ | ⟨k, cap', cur, e, _, _, hnc, _⟩
   ·cases e
   ·simp only [Value.slice.injEq] at e
    omega
  by_cases hd1 : d' = 1
  ·have hd2 : d' - 1 = 0 := by omega
   have H9 := H7
   have HX9 := HX
   have HT9 := Lib.hid (show TrB w7 (w.heap.size + 1) bv (some ⟨gt, 0, none⟩) (y.trusts.drop 1) ∧ TrusI (y.trusts.drop 1) ∧ (y.trusts.drop 1).length ≤ 4 from ⟨(fun i hi => absurd hi (by rw [List.length_drop]; omega)), H7.out.2.2.2.2.2.2.1.drop 1, by rw [List.length_drop]; omega⟩)
   clear H7 HX
   go_upto_region 14 with fail
   obtain ⟨kc0, kf0, kc1, kf1, -⟩ := H9.out.1.rd
   go_wp2_with fail
   obtain ⟨wz, ez, dz, hz⟩ := H9.out.end_ (key := y.key) (tc := d' - 1) HX9.out HT9.out.1 HT9.out.2.1 HT9.out.2.2
   rw [ez]
   have HZ := Lib.hid hz
   have d0 := dz 0
   have d1 := dz 1
   clear ez hz dz
   exact bodyPost_ret (v := .tuple #[.agg #[.int .i64 y.key, .slice A' y.counts.length c'], .int .i64 x, .slice (some ⟨gt, 0, none⟩) (y.trusts.length - 1) 0]) (by simp [results, Tryz.results17, go_sem, d0, d1]) rfl (by have h := HZ.out; rw [List.length_drop, hd2] at h; exact h)
  ·have hd2 : ¬ d' - 1 = 0 := by omega
   have H9 := H7
   have HX9 := HX
   have HT9 := Lib.hid (show TrB w7 (w.heap.size + 1) bv (some ⟨gt, 0 + 8, none⟩) (y.trusts.drop 1) ∧ TrusI (y.trusts.drop 1) ∧ (y.trusts.drop 1).length ≤ 4 from ⟨(T10.trb H7.out).drop1, H7.out.2.2.2.2.2.2.1.drop 1, by rw [List.length_drop]; omega⟩)
   clear H7 HX
   go_upto_region 14 with fail
   obtain ⟨kc0, kf0, kc1, kf1, -⟩ := H9.out.1.rd
   go_wp2_with fail
   obtain ⟨wz, ez, dz, hz⟩ := H9.out.end_ (key := y.key) (tc := d' - 1) HX9.out HT9.out.1 HT9.out.2.1 HT9.out.2.2
   rw [ez]
   have HZ := Lib.hid hz
   have d0 := dz 0
   have d1 := dz 1
   clear ez hz dz
   exact bodyPost_ret (v := .tuple #[.agg #[.int .i64 y.key, .slice A' y.counts.length c'], .int .i64 x, .slice (some ⟨gt, 8, none⟩) (y.trusts.length - 1) (d' - 1)]) (by simp [results, Tryz.results17, go_sem, d0, d1]) rfl (by have h := HZ.out; rw [List.length_drop] at h; exact h)
 case' inr.inr.inl =>
  obtain ⟨bT, oT, eT, m0, m1⟩ := Trs.at_ (T10.trb H7.out).trs hlen
  injection eT with eT
  injection eT with e1 e2
  subst e1 e2
  obtain ⟨m1, -⟩ := m1
  rw [Nat.zero_mul, Nat.add_zero] at m1
  have HH := Lib.hid (fun (u : World) (x : Int) (h : T10 v w g A l cap bv gt #[.int .i64 y.key, .slice A' y.counts.length c', .slice (some ⟨gt, 0, none⟩) y.trusts.length d', .slice C' y.cells.length e', .slice (some ⟨b', 0, none⟩) 2 s', .int .i64 y.count] A' y.counts c' y.trusts d' u) => h.t0 (x := IntKind.i64.wrap x) (i64_wrap x) hlen)
  have hfz := fun (u : World) (h : T10 v w g A l cap bv gt #[.int .i64 y.key, .slice A' y.counts.length c', .slice (some ⟨gt, 0, none⟩) y.trusts.length d', .slice C' y.cells.length e', .slice (some ⟨b', 0, none⟩) 2 s', .int .i64 y.count] A' y.counts c' y.trusts d' u) => h.frz hlen
  have HFZ := Lib.hid hfz
  have HCK := Lib.hid (fun (u : World) (h : T10 v w g A l cap bv gt #[.int .i64 y.key, .slice A' y.counts.length c', .slice (some ⟨gt, 0, none⟩) y.trusts.length d', .slice C' y.cells.length e', .slice (some ⟨b', 0, none⟩) 2 s', .int .i64 y.count] A' y.counts c' y.trusts d' u) => h.clk hlen)
  clear hfz m0
  generalize (y.trusts.getD 0 default).clock = ck at m1 HCK
  have f7 := HFZ.out _ H7.out
  go_upto_region 11 with fail
  go_region_with (go_at_call 33; refine (below_st v g A l cap 9 _ HN.out ?_ (by omega)).mono ?_; exact H7.out.1.2.1.drew; rintro e w8 ⟨m, rfl, im, s8, g8⟩; have H8 := Lib.hid (H7.out.drew.step s8 g8); clear s8 g8 im; have m8 := HCK.out _ H8.out; have f8 := HFZ.out _ H8.out)
  all_goals
   have H9 := Lib.hid (HH.out _ (IntKind.i64.wrap (ck - 1) - m) H8.out)
   go_upto_region 14 with fail
   clear m8 f8 m1 f7 H8 H7 HH HFZ HCK
   generalize World.setCell _ _ _ = w9 at H9 ⊢
   generalize hL9 : y.trusts.set 0 _ = L9 at H9
   have hl9 : L9.length = y.trusts.length := by rw [← hL9, List.length_set]
   clear hL9
   have HT9 := Lib.hid (show TrB w9 (w.heap.size + 1) bv (some ⟨gt, 0, none⟩) L9 ∧ TrusI L9 ∧ L9.length ≤ 4 from ⟨T10.trb H9.out, H9.out.2.2.2.2.2.2.1, by omega⟩)
   have HL9 := Lib.hid hl9
   clear hl9
   obtain ⟨kc0, kf0, kc1, kf1, -⟩ := H9.out.1.rd
   go_wp2_with fail
   obtain ⟨wz, ez, dz, hz⟩ := H9.out.end_ (key := y.key) (tc := d') HX.out HT9.out.1 HT9.out.2.1 HT9.out.2.2
   rw [ez]
   have HZ := Lib.hid hz
   have d0 := dz 0
   have d1 := dz 1
   clear ez hz dz
   exact bodyPost_ret (v := .tuple #[.agg #[.int .i64 y.key, .slice A' y.counts.length c'], .int .i64 x, .slice (some ⟨gt, 0, none⟩) y.trusts.length d']) (by simp [results, Tryz.results17, go_sem, d0, d1]) rfl (by have h := HZ.out; rw [HL9.out] at h; exact h)
 case' inr.inr.inr =>
  go_wp2_with fail
  refine (draw5Any_calls v g A l cap w7 HN.out H7.out.1.2.1).mono ?_; rintro e w8 ⟨key2, u2, zs2, rfl, hl2, hr2, s8, g8⟩
  obtain ⟨Q2, c2, rfl, -, hc2⟩ := hr2.reads_cap
  have H9 := Lib.hid (H7.out.step s8 g8)
  have lb := H7.out.1.lt (x := (bv, 68, #[.int .i64 y.key, .slice A' y.counts.length c', .slice (some ⟨gt, 0, none⟩) y.trusts.length d', .slice C' y.cells.length e', .slice (some ⟨b', 0, none⟩) 2 s', .int .i64 y.count])) (by simp)
  have R2 := Lib.hid (hr2.mono (show w.heap.size + 1 ≤ w7.heap.size by have := H7.out.2.2.1.1; simp only [] at lb; omega))
  have HL2 := Lib.hid hl2
  have HC2 := Lib.hid hc2
  clear hl2 hr2 s8 g8 H7 lb hc2
  obtain ⟨kc0, kf0, kc1, kf1, -⟩ := H9.out.1.rd
  go_wp2_with fail
  obtain ⟨wz, ez, dz, hz⟩ := H9.out.end2 (key := y.key) (key' := key2) (tc := d') HX.out (T10.trb H9.out) H9.out.2.2.2.2.2.2.1 hlen4 R2.out HL2.out HC2.out
  rw [ez]
  have HZ := Lib.hid hz
  have d0 := dz 0
  have d1 := dz 1
  clear ez hz dz
  exact bodyPost_ret (v := .tuple #[.agg #[.int .i64 key2, .slice Q2 zs2.length c2], .int .i64 x, .slice (some ⟨gt, 0, none⟩) y.trusts.length d']) (by simp [results, Tryz.results17, go_sem, d0, d1]) rfl HZ.out
 case' false =>
  obtain ⟨kc0, kf0, kc1, kf1, -⟩ := H9.out.1.rd
  go_wp2_with fail
  obtain ⟨wz, ez, dz, hz⟩ := H9.out.end_ (key := y.key) (tc := d') HX9.out HT9.out.1 HT9.out.2.1 HT9.out.2.2
  rw [ez]
  have HZ := Lib.hid hz
  have d0 := dz 0
  have d1 := dz 1
  clear ez hz dz
  exact bodyPost_ret (v := .tuple #[.agg #[.int .i64 y.key, .slice A' y.counts.length c'], .int .i64 x, .slice (some ⟨gt, 0, none⟩) y.trusts.length d']) (by simp [results, Tryz.results17, go_sem, d0, d1]) rfl (by have h := HZ.out; exact h)
 case' inl =>
  obtain ⟨kc0, kf0, kc1, kf1, -⟩ := H9.out.1.rd
  go_wp2_with fail
  obtain ⟨wz, ez, dz, hz⟩ := H9.out.end_ (key := y.key) (tc := d') HX9.out HT9.out.1 HT9.out.2.1 HT9.out.2.2
  rw [ez]
  have HZ := Lib.hid hz
  have d0 := dz 0
  have d1 := dz 1
  clear ez hz dz
  exact bodyPost_ret (v := .tuple #[.agg #[.int .i64 y.key, .slice A' y.counts.length c'], .int .i64 x2, .slice (some ⟨gt, 0, none⟩) y.trusts.length d']) (by simp [results, Tryz.results17, go_sem, d0, d1]) rfl (by have h := HZ.out; exact h)
end Go.Proofs.YtodmponjjhokdaaGreat.Mx

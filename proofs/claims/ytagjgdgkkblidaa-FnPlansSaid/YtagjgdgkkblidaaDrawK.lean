/- CONTRACTS OF spec.l1From AND spec.l5Draw: a number; a plan whose counts lie in new memory; of what was there only the cursor is written. -/
import Derived.Test.YtagjgdgkkblidaaDrawS
import Derived.Test.YtagjgdgkkblidaaDrawC
import Derived.Deep.AppendLies
import Derived.Deep.RegionLaw
namespace Go.Proofs.Ytagjgdgkkblidaa.Mx
open Go.ChangeShapes Go.WideShapes Go.ChangeAt Go.RowKit
set_option linter.unusedVariables false

theorem from_st (v : World) (g : Nat) (A : Option Addr) (l : List Int) (cap : Nat) (lo hi : Int) (w : World) (hn : l.length ≤ maxLen) (h : St v g A l cap w) (h0 : -100 ≤ lo) (h1 : lo ≤ hi) (h2 : hi ≤ 100) :
    Calls Try.prog 26 #[.pointer (some ⟨g, 0, none⟩), .int .i64 lo, .int .i64 hi] w (NumS lo hi v w g A l cap) := by
  have C := Lib.hid (fun w h => below_st v g A l cap (hi - lo + 1) w hn h (by omega))
  have HS := Lib.hid h
  clear hn h
  go_enter Try.func26, Try.ntmps26
  go_wp2_with fail
  refine (C.out _ HS.out).mono ?_; rintro e w1 ⟨x, rfl, ⟨x0, x1⟩, s1, g1⟩
  have S1 := Lib.hid s1
  have G1 := Lib.hid g1
  clear s1 g1
  go_wp2_with fail
  go_ret
  exact ⟨_, rfl, ⟨by omega, by omega⟩, S1.out, G1.out⟩

/-- A PLAN UNDER WAY: block p holds the key and a slice that owns, among the blocks from 'base' on, the numbers zs. -/
def PBox (w : World) (base p : Nat) (key : Int) (v : Value) (zs : List Int) : Prop := p < base ∧ base ≤ w.heap.size ∧ CellsAt w p 26 #[.int .i64 key, v] ∧ Row w base 2 v zs
theorem PBox.grown {w w' : World} {base p g : Nat} {key : Int} {v : Value} {zs : List Int} (h : PBox w base p key v zs) (hg : w.grownBy w' (some g)) (hp : g < p) : PBox w' base p key v zs :=
  ⟨h.1, Nat.le_trans h.2.1 hg.size, h.2.2.1.grown hg (by intro e; injection e with e; omega), h.2.2.2.grown hg (by have := h.1; omega)⟩
theorem PBox.alloc {w : World} {base p : Nat} {key : Int} {v : Value} {zs : List Int} (h : PBox w base p key v zs) (o : Obj) : PBox (w.alloc o) base p key v zs :=
  ⟨h.1, by have := h.2.1; simp; omega, CellsAt.grown h.2.2.1 (World.grownBy_alloc w o none) (by simp), h.2.2.2.alloc o⟩
theorem PBox.drew {w : World} {base p : Nat} {key : Int} {v : Value} {zs : List Int} (h : PBox w base p key v zs) : PBox w.drew base p key v zs :=
  ⟨h.1, h.2.1, h.2.2.1.drew, ⟨h.2.2.2.1.drew, h.2.2.2.2⟩⟩
/-- The row has grown by one number; the box lies apart from it. -/
theorem PBox.grew {w w' : World} {base p : Nat} {key x : Int} {v v' : Value} {zs : List Int} (h : PBox w base p key v zs) (hg : w.grownBy w' v.ownBlock) :
    CellsAt w' p 26 #[.int .i64 key, v] ∧ Below base w w' := by
  have hlt := h.2.2.2.1.lt
  refine ⟨h.2.2.1.grown hg ?_, gr_below hg h.2.1 (fun k hk => (hlt k hk).1)⟩
  intro e
  have := (hlt p e.symm).1
  have := h.1
  omega
theorem PBox.put {w w' : World} {base p : Nat} {key x : Int} {v v' : Value} {zs : List Int} (h : PBox w base p key v zs) (x0 : -9223372036854775808 ≤ x) (x1 : x ≤ 9223372036854775807)
    (hw : w'.ownsRow base 2 1 v' (zs.length + 1) (zs.map (Value.int .i64) ++ [Value.int .i64 x])) (hg : w.grownBy w' v.ownBlock) : PBox (w'.setCell ⟨p, 1, none⟩ v') base p key v' (zs ++ [x]) := by
  have hc := (h.grew (x := x) (v' := v') hg).1
  refine ⟨h.1, by have := hg.size; have := h.2.1; simp [World.setCell]; omega, hc.set_ 1 v', ?_⟩
  exact (Row.snoc h.2.2.2.2 x0 x1 hw).grown (gb_set (gb_refl w' (some p)) 1 v') h.1

/-- A plan is answered, its counts (at most n) in new memory; the state stands. -/
def PlanR (n : Nat) (v w : World) (g : Nat) (A : Option Addr) (l : List Int) (cap : Nat) (e : Ending) (w' : World) : Prop :=
  ∃ (key : Int) (u : Value) (zs : List Int), e = .returned (.agg #[.int .i64 key, u]) ∧ zs.length ≤ n ∧ Row w' w.heap.size 2 u zs ∧ St v g A l cap w' ∧ w.grownBy w' (some g)

set_option maxHeartbeats 1000000 in
theorem draw5_calls (v : World) (g : Nat) (A : Option Addr) (l : List Int) (cap : Nat) (w : World) (hn : l.length ≤ maxLen) (h : St v g A l cap w) :
    Calls Try.prog 41 #[.pointer (some ⟨g, 0, none⟩)] w (PlanR 3 v w g A l cap) := by
  have HN := Lib.hid hn
  have HS := Lib.hid h
  have HL := h.2.lt
  clear hn h
  obtain ⟨i0, hi, hz0, hz1, hz2⟩ := info_parts info_n64
  go_enter Try.func41, Try.ntmps41
  go_wp2_with fail
  refine (below_st v g A l cap 500 _ HN.out (HS.out.alloc _) (by omega)).mono ?_; rintro e w1 ⟨x, rfl, ⟨x0, x1⟩, s1, g1⟩
  have S1 := Lib.hid s1
  have G1 := Lib.hid (gb_trans (gb_alloc (gb_refl w (some g)) _) g1)
  have K1 := Lib.hid ((CellsAt.new w 26 #[.int .i64 0, .slice none 0 0]).grown g1 (by intro e; injection e with e; omega))
  have z1 : w.heap.size < w1.heap.size := by have := g1.size; simp at this; omega
  clear s1 g1
  go_wp2_with fail
  refine (below_st v g A l cap 3 _ HN.out (S1.out.alloc _) (by omega)).mono ?_; rintro e w2 ⟨n, rfl, ⟨n0, n1⟩, s2, g2⟩
  have S2 := Lib.hid s2
  have G2 := Lib.hid (gb_trans (gb_alloc G1.out (.cells #[.int .i64 (1 + x), .slice none 0 0] 26)) g2)
  have K2 := Lib.hid ((CellsAt.grown K1.out (World.grownBy_alloc w1 (.cells #[.int .i64 (1 + x), .slice none 0 0] 26) none) (by simp)).grown g2 (by intro e; injection e with e; omega))
  have P2 := Lib.hid (PBox.grown (show PBox (w1.alloc (.cells #[.int .i64 (1 + x), .slice none 0 0] 26)) (w1.heap.size + 1) w1.heap.size (1 + x) (.slice none 0 0) [] from
    ⟨by omega, by simp, CellsAt.new _ _ _, ⟨World.ownsRow_nil _ _ _ _, I64s.nil⟩⟩) g2 (by omega))
  clear s2 g2
  obtain ⟨k, rfl⟩ := Int.eq_ofNat_of_zero_le n0
  go_wp2_with fail
  go_loopw [4] (fun i wr => ∃ (j : Nat) (u : Value) (zs : List Int), i = .int .i64 j ∧ j + zs.length ≤ 3 ∧ PBox wr (w1.heap.size + 1) w1.heap.size (1 + x) u zs ∧ CellsAt wr w.heap.size 26 #[.int .i64 0, .slice none 0 0] ∧ St v g A l cap wr ∧ w.grownBy wr (some g)) (fun i _ => (intOf i).toNat)
  case atStart => exact ⟨1 + k, _, [], by go_num, by simp; omega, P2.out, K2.out, S2.out, G2.out⟩
  case round =>
    obtain ⟨j, u, zs, rfl, hj, hbox, hres, hst, hgb⟩ := hrel
    have PB := Lib.hid hbox
    have KR := Lib.hid hres
    have HT := Lib.hid hst
    have HG := Lib.hid hgb
    have c1 : wr.cell? ⟨w1.heap.size, 1, none⟩ = some u := hbox.2.2.1.cell 1
    clear hbox hres hst hgb
    by_cases hlt : 0 < j
    · go_wp2_with fail
      go_region_law (first
        | (refine step_append_lies _ (by rfl) _ _ _ (by rfl) (w1.heap.size + 1) 2 i0 _ 1 8 Try.underlying24 hi hz0 hz1 hz2 rfl (by omega) u zs.length (zs.map (Value.int .i64)) (by rfl) (PX.out.alloc _).2.2.2.1
            ⟨wx.heap.size, 0, none⟩ 1 1 [.int .i64 (1 + y)] (by rfl) (by rfl) (World.news_of_block (cs := #[.int .i64 (1 + y)]) (t := 2) (fr := (0, 0)) (heap_alloc_new wx _)) (by simp [Value.oneCell'])
            (by omega) (by unfold maxLen; omega) (by omega) (by have := PX.out.2.1; simp; omega) (wx.heap.size + 1) (by simp) ?_
           intro gg cc wy hown hgrow hat hlt2
           have hpg := (PX.out.alloc (.cells #[.int .i64 (1 + y)] 2)).grew (x := 0) (v' := .slice none 0 0) hgrow
           have d1 : wy.cell? ⟨w1.heap.size, 1, none⟩ = some u := hpg.1.cell 1
           have d2 := hpg.1.frozen 1
           have PY := Lib.hid ((PX.out.alloc (.cells #[.int .i64 (1 + y)] 2)).put (v' := .slice (some ⟨gg, 0, none⟩) (zs.length + 1) cc) (by omega) (by omega) hown hgrow)
           have BY := Lib.hid hpg.2
           clear hown hgrow hat hlt2 hpg)
        | (go_simp; go_at_call 43; refine (below_st v g A l cap 3 _ HN.out ?_ (by omega)).mono ?_; exact HT.out.drew; rintro e wx ⟨y, rfl, ⟨y0, y1⟩, sx, gx⟩
           have hwy : IntKind.i64.wrap (1 + y) = 1 + y := IntWalk.i64_in _ (by omega)
           have PX := Lib.hid (PB.out.drew.grown gx (by omega))
           have SX := Lib.hid sx
           have GX := Lib.hid (gb_trans (gb_drew HG.out) gx)
           have KX := Lib.hid (KR.out.drew.grown gx (by intro e; injection e with e; omega))
           have e1 : wx.cell? ⟨w1.heap.size, 1, none⟩ = some u := PX.out.2.2.1.cell 1
           have e2 : ∀ o, (wx.alloc o).cell? ⟨w1.heap.size, 1, none⟩ = some u := fun o => (PX.out.alloc o).2.2.1.cell 1
           clear sx gx))
      all_goals
        have SY := Lib.hid (((SX.out.alloc (.cells #[.int .i64 (1 + y)] 2)).below BY.out (by omega)).set (show g < w1.heap.size by omega) 1 (.slice (some ⟨gg, 0, none⟩) (zs.length + 1) cc))
        have KY := Lib.hid (((CellsAt.grown KX.out (World.grownBy_alloc wx (.cells #[.int .i64 (1 + y)] 2) none) (by simp)).below BY.out (by omega)).grown (gb_set (gb_refl wy (some w1.heap.size)) 1 (.slice (some ⟨gg, 0, none⟩) (zs.length + 1) cc)) (by intro e; injection e with e; omega))
        have GY := Lib.hid (gb_new (gb_blw (gb_alloc GX.out (.cells #[.int .i64 (1 + y)] 2)) (BY.out.mono (by omega))) (show w.heap.size ≤ w1.heap.size by omega) 1 (.slice (some ⟨gg, 0, none⟩) (zs.length + 1) cc))
        clear SX KX GX BY PX d1 d2 e1 e2
        go_wp2_with fail
        go_roundw
        case rel => exact ⟨j - 1, _, zs ++ [1 + y], by go_num, by simp; omega, PY.out, KY.out, SY.out, GY.out⟩
        case measure => simp [intOf]; omega
    · obtain rfl : j = 0 := by omega
      have c0 : wr.cell? ⟨w1.heap.size, 0, none⟩ = some (.int .i64 (1 + x)) := PB.out.2.2.1.cell 0
      have r0 : wr.cell? ⟨w.heap.size, 0, none⟩ = some (.int .i64 0) := KR.out.cell 0
      have r1 : wr.cell? ⟨w.heap.size, 1, none⟩ = some (.slice none 0 0) := KR.out.cell 1
      have f0 := KR.out.frozen 0
      have f1 := KR.out.frozen 1
      obtain ⟨q, c, hq, -⟩ := PB.out.2.2.2.reads
      have hrow := PB.out.2.2.2
      have hbb := PB.out.1
      subst hq
      go_wp2_with fail
      have HR := Lib.hid ((hrow.grown (gb_set (gb_refl wr (some w.heap.size)) 0 (.int .i64 (1 + x))) (by omega)).grown (gb_set (gb_refl _ (some w.heap.size)) 1 (.slice q zs.length c)) (by omega))
      have HS2 := Lib.hid ((HT.out.set HL 0 (.int .i64 (1 + x))).set HL 1 (.slice q zs.length c))
      have HG2 := Lib.hid (gb_new (gb_new HG.out (Nat.le_refl _) 0 (.int .i64 (1 + x))) (Nat.le_refl _) 1 (.slice q zs.length c))
      have hk := (KR.out.set_ 0 (.int .i64 (1 + x))).set_ 1 (.slice q zs.length c)
      clear hrow PB HT HG c0 c1 r0 r1 f0 f1
      generalize World.setCell _ _ _ = w4 at HR HS2 HG2 hk ⊢
      have d0 : w4.cell? ⟨w.heap.size, 0, none⟩ = some (.int .i64 (1 + x)) := hk.cell 0
      have d1 : w4.cell? ⟨w.heap.size, 1, none⟩ = some (.slice q zs.length c) := hk.cell 1
      exact bodyPost_ret (v := .agg #[.int .i64 (1 + x), .slice q zs.length c]) (by simp [results, Try.results41, go_sem, d0, d1]) rfl ⟨_, _, zs, rfl, by omega, HR.out.mono (by omega), HS2.out, HG2.out⟩
end Go.Proofs.Ytagjgdgkkblidaa.Mx

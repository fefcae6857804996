/- CONTRACT OF laws.scheme: a right plan is answered, its counts in new memory; of what was there only the dice is written. -/
import Derived.Test.YtagjgdgkkblidaaDrawK
import Derived.Test.YtagjgdgkkblidaaPlanNum
namespace Go.Proofs.Ytagjgdgkkblidaa.Mx
open Go.ChangeShapes Go.WideShapes Go.ChangeAt Go.RowKit
set_option linter.unusedVariables false

theorem CountsOk.nil : CountsOk [] := fun i hi => by simp at hi
theorem CountsOk.snoc {l : List Int} {x : Int} (h : CountsOk l) (h0 : 1 ≤ x) (h1 : x ≤ 8) : CountsOk (l ++ [x]) := by
  intro i hi
  rw [List.getD_eq_getElem?_getD]
  rcases Nat.lt_or_ge i l.length with hlt | hge
  · rw [List.getElem?_append_left hlt]
    have := h i hlt
    rwa [List.getD_eq_getElem?_getD] at this
  · have : i = l.length := by simp at hi; omega
    subst this
    simp
    exact ⟨h0, h1⟩

/-- A right plan is answered, its counts in new memory; of what was there only the dice is written. -/
def Schemed (w : World) (g : Nat) (A : Option Addr) (l : List Int) (cap : Nat) (e : Ending) (w' : World) : Prop :=
  ∃ (key : Int) (u : Value) (zs : List Int), e = .returned (.agg #[.int .i64 key, u]) ∧ planOk key zs ∧ Row w' w.heap.size 2 u zs ∧ Dice w' g A l cap ∧ w.grownBy w' (some g)

set_option maxHeartbeats 1000000 in
theorem scheme_calls (g : Nat) (A : Option Addr) (l : List Int) (cap : Nat) (w : World) (hn : l.length ≤ maxLen) (h : Dice w g A l cap) (h8 : ∀ i, i < l.length → 0 ≤ l.getD i 0 ∧ l.getD i 0 ≤ 255) :
    Calls Try.prog 19 #[.pointer (some ⟨g, 0, none⟩)] w (Schemed w g A l cap) := by
  have HN := Lib.hid hn
  have HS := Lib.hid h
  have H8 := Lib.hid h8
  have HL := h.lt
  clear hn h h8
  obtain ⟨i0, hi, hz0, hz1, hz2⟩ := info_parts info_n64
  go_enter Try.func19, Try.ntmps19
  go_wp2_with fail
  refine (throw_calls g A l cap 100000 _ HN.out (d8_below HS.out ((Below.refl _ _).alloc (Nat.le_refl _) _)) H8.out (by omega)).mono ?_; rintro e w1 ⟨x, rfl, ⟨x0, x1⟩, g1, s1⟩
  have S1 := Lib.hid s1
  have G1 := Lib.hid (gb_trans (gb_alloc (gb_refl w (some g)) _) g1)
  have K1 := Lib.hid ((CellsAt.new w 26 #[.int .i64 0, .slice none 0 0]).grown g1 (by intro e; injection e with e; omega))
  have z1 : w.heap.size < w1.heap.size := by have := g1.size; simp at this; omega
  clear s1 g1
  go_wp2_with fail
  refine (throw_calls g A l cap 3 _ HN.out (d8_below S1.out ((Below.refl _ _).alloc (Nat.le_refl _) (.cells #[.int .i64 (1 + x), .slice none 0 0] 26))) H8.out (by omega)).mono ?_; rintro e w2 ⟨n, rfl, ⟨n0, n1⟩, g2, s2⟩
  have S2 := Lib.hid s2
  have G2 := Lib.hid (gb_trans (gb_alloc G1.out (.cells #[.int .i64 (1 + x), .slice none 0 0] 26)) g2)
  have K2 := Lib.hid ((CellsAt.grown K1.out (World.grownBy_alloc w1 (.cells #[.int .i64 (1 + x), .slice none 0 0] 26) none) (by simp)).grown g2 (by intro e; injection e with e; omega))
  have P2 := Lib.hid (PBox.grown (show PBox (w1.alloc (.cells #[.int .i64 (1 + x), .slice none 0 0] 26)) (w1.heap.size + 1) w1.heap.size (1 + x) (.slice none 0 0) [] from
    ⟨by omega, by simp, CellsAt.new _ _ _, ⟨World.ownsRow_nil _ _ _ _, I64s.nil⟩⟩) g2 (by omega))
  clear s2 g2
  obtain ⟨k, rfl⟩ := Int.eq_ofNat_of_zero_le n0
  go_wp2_with fail
  go_loopw [4] (fun i wr => ∃ (j : Nat) (u : Value) (zs : List Int), i = .int .i64 j ∧ (1 ≤ j + zs.length ∧ j + zs.length ≤ 3) ∧ CountsOk zs ∧ PBox wr (w1.heap.size + 1) w1.heap.size (1 + x) u zs ∧ CellsAt wr w.heap.size 26 #[.int .i64 0, .slice none 0 0] ∧ Dice wr g A l cap ∧ w.grownBy wr (some g)) (fun i _ => (intOf i).toNat)
  case atStart => exact ⟨1 + k, _, [], by go_num, by simp; omega, CountsOk.nil, P2.out, K2.out, S2.out, G2.out⟩
  case round =>
    obtain ⟨j, u, zs, rfl, ⟨hj1, hj⟩, hco, hbox, hres, hst, hgb⟩ := hrel
    have CO := Lib.hid hco
    have PB := Lib.hid hbox
    have KR := Lib.hid hres
    have HT := Lib.hid hst
    have HG := Lib.hid hgb
    have c1 : wr.cell? ⟨w1.heap.size, 1, none⟩ = some u := hbox.2.2.1.cell 1
    clear hco hbox hres hst hgb
    by_cases hlt : 0 < j
    · go_wp2_with fail
      go_region_law (first
        | (refine step_append_lies _ (by rfl) _ _ _ (by rfl) (w1.heap.size + 1) 2 i0 _ 1 8 Try.underlying24 hi hz0 hz1 hz2 rfl (by omega) u zs.length (zs.map (Value.int .i64)) (by rfl) (PX.out.alloc _).2.2.2.1
            ⟨wx.heap.size, 0, none⟩ 1 1 [.int .i64 (1 + y)] (by rfl) (by rfl) (World.news_of_block (cs := #[.int .i64 (1 + y)]) (t := 2) (fr := (0, 0)) (heap_alloc_new wx _)) (by simp [Value.oneCell'])
            (by omega) (by unfold maxLen; omega) (by omega) (by have := PX.out.2.1; simp; omega) (wx.heap.size + 1) (by simp) ?_
           intro gg cc wy hown hgrow hat hlt2
           have hpg := (PX.out.alloc (.cells #[.int .i64 (1 + y)] 2)).grew (x := 0) (v' := .slice none 0 0) hgrow
           have d1 : wy.cell? ⟨w1.heap.size, 1, none⟩ = some u := hpg.1.cell 1
           have d2 := hpg.1.frozen 1
           have PY := Lib.hid ((PX.out.alloc (.cells #[.int .i64 (1 + y)] 2)).put (v' := .slice (some ⟨gg, 0, none⟩) (zs.length + 1) cc) (by omega) (by omega) hown hgrow)
           have BY := Lib.hid hpg.2
           clear hown hgrow hat hlt2 hpg)
        | (go_simp; go_at_call 37; refine (throw_calls g A l cap 4 _ HN.out ?_ H8.out (by omega)).mono ?_; exact HT.out.drew; rintro e wx ⟨y, rfl, ⟨y0, y1⟩, gx, sx⟩
           have hwy : IntKind.i64.wrap (1 + y) = 1 + y := IntWalk.i64_in _ (by omega)
           have PX := Lib.hid (PB.out.drew.grown gx (by omega))
           have SX := Lib.hid sx
           have GX := Lib.hid (gb_trans (gb_drew HG.out) gx)
           have KX := Lib.hid (KR.out.drew.grown gx (by intro e; injection e with e; omega))
           have e1 : wx.cell? ⟨w1.heap.size, 1, none⟩ = some u := PX.out.2.2.1.cell 1
           have e2 : ∀ o, (wx.alloc o).cell? ⟨w1.heap.size, 1, none⟩ = some u := fun o => (PX.out.alloc o).2.2.1.cell 1
           clear sx gx))
      all_goals
        have SY := Lib.hid (((d8_below SX.out ((Below.refl _ _).alloc (Nat.le_refl _) (.cells #[.int .i64 (1 + y)] 2))).below BY.out (by omega)).set (show g < w1.heap.size by omega) 1 (.slice (some ⟨gg, 0, none⟩) (zs.length + 1) cc))
        have KY := Lib.hid (((CellsAt.grown KX.out (World.grownBy_alloc wx (.cells #[.int .i64 (1 + y)] 2) none) (by simp)).below BY.out (by omega)).grown (gb_set (gb_refl wy (some w1.heap.size)) 1 (.slice (some ⟨gg, 0, none⟩) (zs.length + 1) cc)) (by intro e; injection e with e; omega))
        have GY := Lib.hid (gb_new (gb_blw (gb_alloc GX.out (.cells #[.int .i64 (1 + y)] 2)) (BY.out.mono (by omega))) (show w.heap.size ≤ w1.heap.size by omega) 1 (.slice (some ⟨gg, 0, none⟩) (zs.length + 1) cc))
        have CY := Lib.hid (CO.out.snoc (x := 1 + y) (by omega) (by omega))
        clear SX KX GX BY PX d1 d2 e1 e2
        go_wp2_with fail
        go_roundw
        case rel => exact ⟨j - 1, _, zs ++ [1 + y], by go_num, by simp; omega, CY.out, PY.out, KY.out, SY.out, GY.out⟩
        case measure => simp [intOf]; omega
    · obtain rfl : j = 0 := by omega
      have c0 : wr.cell? ⟨w1.heap.size, 0, none⟩ = some (.int .i64 (1 + x)) := PB.out.2.2.1.cell 0
      have r0 : wr.cell? ⟨w.heap.size, 0, none⟩ = some (.int .i64 0) := KR.out.cell 0
      have r1 : wr.cell? ⟨w.heap.size, 1, none⟩ = some (.slice none 0 0) := KR.out.cell 1
      have f0 := KR.out.frozen 0
      have f1 := KR.out.frozen 1
      obtain ⟨q, c, hq, -⟩ := PB.out.2.2.2.reads
      have hrow := PB.out.2.2.2
      have hbb := PB.out.1
      have hok : planOk (1 + x) zs := ⟨⟨by omega, by omega⟩, ⟨by omega, by omega⟩, CO.out, by have := upTo_bd CO.out (Nat.le_refl zs.length); omega⟩
      have OK := Lib.hid hok
      clear hok
      subst hq
      go_wp2_with fail
      have HR := Lib.hid ((hrow.grown (gb_set (gb_refl wr (some w.heap.size)) 0 (.int .i64 (1 + x))) (by omega)).grown (gb_set (gb_refl _ (some w.heap.size)) 1 (.slice q zs.length c)) (by omega))
      have HS2 := Lib.hid ((HT.out.set HL 0 (.int .i64 (1 + x))).set HL 1 (.slice q zs.length c))
      have HG2 := Lib.hid (gb_new (gb_new HG.out (Nat.le_refl _) 0 (.int .i64 (1 + x))) (Nat.le_refl _) 1 (.slice q zs.length c))
      have hk := (KR.out.set_ 0 (.int .i64 (1 + x))).set_ 1 (.slice q zs.length c)
      clear hrow PB HT HG c0 c1 r0 r1 f0 f1
      generalize World.setCell _ _ _ = w4 at HR HS2 HG2 hk ⊢
      have d0 : w4.cell? ⟨w.heap.size, 0, none⟩ = some (.int .i64 (1 + x)) := hk.cell 0
      have d1 : w4.cell? ⟨w.heap.size, 1, none⟩ = some (.slice q zs.length c) := hk.cell 1
      exact bodyPost_ret (v := .agg #[.int .i64 (1 + x), .slice q zs.length c]) (by simp [results, Try.results19, go_sem, d0, d1]) rfl ⟨_, _, zs, rfl, OK.out, HR.out.mono (by omega), HS2.out, HG2.out⟩
end Go.Proofs.Ytagjgdgkkblidaa.Mx

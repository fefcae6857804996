import Derived.Test.YtgaecedhkbneaaaGreatDoorH28
import Derived.Test.YtgaecedhkbneaaaGreatDoorH14
import Derived.Test.YtgaecedhkbneaaaGreatDoorH17
import Derived.Test.YtgaecedhkbneaaaGreatDoorH27
namespace Go.Proofs.YtgaecedhkbneaaaGreatDoor.Mx
open Go.ChangeShapes Go.WideShapes Go.ChangeAt Go.RowKit
set_option linter.unusedVariables false
theorem steps_storeO {P : Program} {ρ : Operand → Value} {o : Oper} {t : TypeId} {x y : Operand} {w : World} {K : Value → World → Prop} {p k : Nat} {a b a' b' : Value} (h0 : w.cell? ⟨p, k, none⟩ = some a) (h1 : w.cell? ⟨p, k + 1, none⟩ = some b) (hf : ∀ i, w.frozen? ⟨p, i, none⟩ = false)
    (hop : o.op = .store t x y) (hx : ρ x = .pointer (some ⟨p, k, none⟩)) (hy : ρ y = .agg #[a', b']) (hi : (P.info? t).map (·.size) = some 2) (h2 : (#[a', b'] : Array Value).all (·.oneCell') = true)
    (h : K undef ((w.setCell ⟨p, k, none⟩ a').setCell ⟨p, k + 1, none⟩ b')) : stepsTo P ((execOp ρ o).run P w) K := by
  have ht : w.there p k 2 := fun j hj => by
    match j, hj with
    | 0, _ => exact ⟨by rw [Nat.add_zero, h0]; rfl, hf _⟩
    | 1, _ => exact ⟨by rw [h1]; rfl, hf _⟩
  have e2 : (execOp ρ o).run P w = .ok .skip ((w.setCell ⟨p, k, none⟩ a').setCell ⟨p, k + 1, none⟩ b') := by
    unfold execOp
    rw [hop]
    simp only [hx, hy, Instr.storeAt, Instr.sureAddr, Sem.run_bind, Sem.run_pure, Result.andThen_ok, run_storeVar_mid w p k t #[a', b'] ht hi h2]
    rfl
  rw [e2]
  exact h
theorem rowT_new {b : World} {g : Nat} {t : TypeId} {cs : Array Value} (h : CellsAt b g t cs) (cs' : Array Value) : CellsAt (b.setRow g cs') g t cs' := setRow_heap b g cs cs' t (0, 0) h
theorem rowT_else {b : World} {g g' : Nat} {t : TypeId} {D : Array Value} (h : CellsAt b g' t D) (hn : g' ≠ g) (cs' : Array Value) : CellsAt (b.setRow g cs') g' t D := (setRow_other b g g' cs' hn).trans h
theorem Kept.turn {b u u' : World} {L : List Box} {g : Nat} {t : TypeId} {cs cs' : Array Value} (h : Kept b L u) (hb : CellsAt b g t cs) (hg : u.grownBy u' (some g)) (hc : CellsAt u' g t cs') : Kept (b.setRow g cs') L u' := by
  have hlt := hb.lt
  refine ⟨⟨hg.os.trans h.1.os, hg.tape.trans h.1.tape, hg.output.trans h.1.output, by simpa using Nat.le_trans h.1.size hg.size, fun k hk => ?_⟩, fun x hx => ⟨by simpa using (h.2 x hx).1, (h.2 x hx).2.grown hg (by intro e; injection e with e; have := (h.2 x hx).1; omega)⟩⟩
  rw [setRow_size] at hk
  by_cases e : k = g
  · subst e
    exact (show u'.heap[k]? = _ from hc).trans (rowT_new hb cs').symm
  · rw [setRow_other b g k cs' e]
    exact (hg.block k (Nat.lt_of_lt_of_le hk h.1.size) (by intro e2; injection e2 with e2; exact e e2)).trans (h.1.block k hk)
theorem setRow_swap (b : World) {g g' : Nat} (x y : Array Value) (hn : g ≠ g') : (b.setRow g x).setRow g' y = (b.setRow g' y).setRow g x := by
  unfold World.setRow
  congr 1
  apply Array.ext
  · simp
  · intro i h1 h2
    simp only [Array.getElem_modify]
    split <;> split <;> simp_all
theorem setRow_three {b : World} {g g' : Nat} {x y z : Array Value} (hn : g ≠ g') : ((b.setRow g x).setRow g' y).setRow g z = (b.setRow g z).setRow g' y := by
  rw [setRow_swap b x y hn, setRow_setRow, setRow_swap b z y hn]
theorem tru8O_put {w1 : World} {r o : Nat} {t : TypeId} {T : Array Value} {x0 x1 x2 x3 x4 x5 x6 x7 y0 y1 y2 y3 y4 y5 y6 y7 : Value} (hT : o + 8 ≤ T.size) (hk : CellsAt w1 r t (putT T o [y0, y1, y2, y3, y4, y5, y6, y7])) :
    CellsAt ((((((((w1.setCell ⟨r, o, none⟩ x0).setCell ⟨r, o + 1, none⟩ x1).setCell ⟨r, o + 2, none⟩ x2).setCell ⟨r, o + 3, none⟩ x3).setCell ⟨r, o + 4, none⟩ x4).setCell ⟨r, o + 5, none⟩ x5).setCell ⟨r, o + 6, none⟩ x6).setCell ⟨r, o + 7, none⟩ x7) r t (putT T o [x0, x1, x2, x3, x4, x5, x6, x7]) ∧
    w1.grownBy ((((((((w1.setCell ⟨r, o, none⟩ x0).setCell ⟨r, o + 1, none⟩ x1).setCell ⟨r, o + 2, none⟩ x2).setCell ⟨r, o + 3, none⟩ x3).setCell ⟨r, o + 4, none⟩ x4).setCell ⟨r, o + 5, none⟩ x5).setCell ⟨r, o + 6, none⟩ x6).setCell ⟨r, o + 7, none⟩ x7) (some r) :=
  ⟨(((((((hk.put8 hT rfl 0 (by decide) x0).put8 hT rfl 1 (by decide) x1).put8 hT rfl 2 (by decide) x2).put8 hT rfl 3 (by decide) x3).put8 hT rfl 4 (by decide) x4).put8 hT rfl 5 (by decide) x5).put8 hT rfl 6 (by decide) x6).put8 hT rfl 7 (by decide) x7,
   gb_set (gb_set (gb_set (gb_set (gb_set (gb_set (gb_set (gb_set (gb_refl w1 (some r)) o x0) (o + 1) x1) (o + 2) x2) (o + 3) x3) (o + 4) x4) (o + 5) x5) (o + 6) x6) (o + 7) x7⟩
theorem cel_putO {w1 : World} {r q : Nat} {t : TypeId} {D : Array Value} (hk : CellsAt w1 r t D) (x0 x1 : Value) :
    CellsAt ((w1.setCell ⟨r, q, none⟩ x0).setCell ⟨r, q + 1, none⟩ x1) r t ((D.setIfInBounds q x0).setIfInBounds (q + 1) x1) ∧ w1.grownBy ((w1.setCell ⟨r, q, none⟩ x0).setCell ⟨r, q + 1, none⟩ x1) (some r) :=
  ⟨(hk.set_ q x0).set_ (q + 1) x1, gb_set (gb_set (gb_refl w1 (some r)) q x0) (q + 1) x1⟩
def ScanWay (key : Int) (bb oo n cap r gT o gC q : Nat) (P : Int → World → Prop) (S : World → Prop) (k : Nat) (wb : World) : Prop :=
  ∃ (T D : Array Value) (t0 t1 t2 t3 t4 t5 t6 : Int) (t7 : Bool) (ct cv : Int), o + 8 ≤ T.size ∧ CellsAt wb gT 80 (putT T o [.int .i64 t0, .int .i64 t1, .int .i64 t2, .int .i64 t3, .int .i64 t4, .int .i64 t5, .int .i64 t6, .bool t7]) ∧ CellsAt wb gC 112 D ∧ wb.cell? ⟨gC, q + k * 2, none⟩ = some (.int .i64 ct) ∧ wb.cell? ⟨gC, q + k * 2 + 1, none⟩ = some (.int .i64 cv) ∧ bb < wb.heap.size ∧ bb ≠ gT ∧ bb ≠ gC ∧
  ((∃ (a : Addr) (s0 s1 s2 s3 s4 s5 s6 : Int) (s7 : Bool) (d1 d2 code : Int),
      (∀ u, Below wb.heap.size wb u → Calls Tryz.prog 166 #[.agg #[.int .i64 key, .slice (some ⟨bb, oo, none⟩) n cap], .int .i64 r, .agg #[.int .i64 t0, .int .i64 t1, .int .i64 t2, .int .i64 t3, .int .i64 t4, .int .i64 t5, .int .i64 t6, .bool t7], .agg #[.int .i64 ct, .int .i64 cv]] u (RefQ u a s0 s1 s2 s3 s4 s5 s6 s7 d1 d2)) ∧
      (∀ u p, Below ((wb.setRow gT (putT T o [.int .i64 s0, .int .i64 s1, .int .i64 s2, .int .i64 s3, .int .i64 s4, .int .i64 s5, .int .i64 s6, .bool s7])).setRow gC ((D.setIfInBounds (q + k * 2) (.int .i64 d1)).setIfInBounds (q + k * 2 + 1) (.int .i64 d2))).heap.size ((wb.setRow gT (putT T o [.int .i64 s0, .int .i64 s1, .int .i64 s2, .int .i64 s3, .int .i64 s4, .int .i64 s5, .int .i64 s6, .bool s7])).setRow gC ((D.setIfInBounds (q + k * 2) (.int .i64 d1)).setIfInBounds (q + k * 2 + 1) (.int .i64 d2))) u → CellsAt u p 211 #[.iface 264 (.pointer (some a)), .int .i64 s0, .int .i64 s1, .int .i64 s2, .int .i64 s3, .int .i64 s4, .int .i64 s5, .int .i64 s6, .bool s7, .int .i64 d1, .int .i64 d2] → Calls Tryz.prog 157 #[.iface 207 (.pointer (some ⟨p, 0, none⟩))] u fun e w' => e = .returned (.int .i64 code) ∧ u = w') ∧
      wb.cell? ⟨4, 0, none⟩ = some hErr ∧ P code ((wb.setRow gT (putT T o [.int .i64 s0, .int .i64 s1, .int .i64 s2, .int .i64 s3, .int .i64 s4, .int .i64 s5, .int .i64 s6, .bool s7])).setRow gC ((D.setIfInBounds (q + k * 2) (.int .i64 d1)).setIfInBounds (q + k * 2 + 1) (.int .i64 d2)))) ∨
   (∃ (f y1 y2 z3 z6 cnt : Int), t7 = false ∧ wb.cell? ⟨bb, oo + r, none⟩ = some (.int .i64 cnt) ∧ IntKind.i64.wrap (f + t2) = f + t2 ∧
      (∀ u, Below wb.heap.size wb u → Calls Tryz.prog 166 #[.agg #[.int .i64 key, .slice (some ⟨bb, oo, none⟩) n cap], .int .i64 r, .agg #[.int .i64 t0, .int .i64 t1, .int .i64 t2, .int .i64 t3, .int .i64 t4, .int .i64 t5, .int .i64 t6, .bool t7], .agg #[.int .i64 ct, .int .i64 cv]] u fun e w' => e = .returned .nilIface ∧ Below u.heap.size u w') ∧
      (∀ u, Below wb.heap.size wb u → Calls Tryz.prog 103 #[.agg #[.int .i64 key, .slice (some ⟨bb, oo, none⟩) n cap], .int .i64 r] u fun e w' => e = .returned (.int .i64 f) ∧ Below u.heap.size u w') ∧
      (∀ u, CellsAt u gT 80 (putT T o [.int .i64 t0, .int .i64 t1, .int .i64 t2, .int .i64 t3, .int .i64 t4, .int .i64 t5, .int .i64 t6, .bool false]) → Calls Tryz.prog 167 #[.pointer (some ⟨gT, o, none⟩), .int .i64 key, .int .i64 (f + t2), .agg #[.int .i64 ct, .int .i64 cv]] u fun e w' => e = .returned (.agg #[.int .i64 y1, .int .i64 y2]) ∧ u.grownBy w' (some gT) ∧ CellsAt w' gT 80 (putT T o [.int .i64 (t0 + 1), .int .i64 t1, .int .i64 (t2 + 1), .int .i64 z3, .int .i64 t4, .int .i64 t5, .int .i64 z6, .bool false])) ∧
      ((t2 + 1 < cnt ∧ S ((wb.setRow gT (putT T o [.int .i64 (t0 + 1), .int .i64 t1, .int .i64 (t2 + 1), .int .i64 z3, .int .i64 t4, .int .i64 t5, .int .i64 z6, .bool false])).setRow gC ((D.setIfInBounds (q + k * 2) (.int .i64 y1)).setIfInBounds (q + k * 2 + 1) (.int .i64 y2)))) ∨ (¬ t2 + 1 < cnt ∧ (z3 == t4) = true ∧ 0 ≤ t1 ∧ t1 ≤ 1000 ∧ P 5 ((wb.setRow gT (putT T o [.int .i64 (t0 + 1), .int .i64 (t1 + 1), .int .i64 0, .int .i64 t5, .int .i64 z6, .int .i64 0, .int .i64 0, .bool false])).setRow gC ((D.setIfInBounds (q + k * 2) (.int .i64 y1)).setIfInBounds (q + k * 2 + 1) (.int .i64 y2)))) ∨ (¬ t2 + 1 < cnt ∧ (z3 == t4) = false ∧ P 4 ((wb.setRow gT (putT T o [.int .i64 (t0 + 1), .int .i64 t1, .int .i64 0, .int .i64 z3, .int .i64 t4, .int .i64 0, .int .i64 0, .bool true])).setRow gC ((D.setIfInBounds (q + k * 2) (.int .i64 y1)).setIfInBounds (q + k * 2 + 1) (.int .i64 y2)))))))
set_option maxRecDepth 20000 in
set_option maxHeartbeats 20000000 in
theorem scanP_calls (key : Int) (bb oo n cap r gT o gC q m mc : Nat) (P : Int → World → Prop) (S : Nat → World → Prop) (v0 : World) (hn : n ≤ 1048576) (hr : r < n) (hm : m ≤ 1048576)
    (hS : ∀ k wb, S k wb → k < m → wb.heap.size = v0.heap.size → ScanWay key bb oo n cap r gT o gC q P (S (k + 1)) k wb) (hE : ∀ wb, S m wb → P 0 wb) (h0 : S 0 v0) :
    Calls Tryz.prog 102 #[.pointer (some ⟨gT, o, none⟩), .agg #[.int .i64 key, .slice (some ⟨bb, oo, none⟩) n cap], .int .i64 r, .slice (some ⟨gC, q, none⟩) m mc] v0 fun e w' => ∃ (code : Int) (wb : World), e = .returned (.int .i64 code) ∧ wb.heap.size = v0.heap.size ∧ Kept wb [] w' ∧ P code wb := by
  have HS := Lib.hid hS
  have HE := Lib.hid hE
  have H0 := Lib.hid h0
  have hr0 : (r : Int) < n := by omega
  clear hS hE h0
  go_enter Tryz.func102, Tryz.ntmps102
  go_upto_region 2 with fail
  have k0 : Kept v0 [(v0.heap.size, 26, #[.int .i64 key, .slice (some ⟨bb, oo, none⟩) n cap])] _ := (Kept.refl v0).put1 _ _ #[.int .i64 key, .slice (some ⟨bb, oo, none⟩) n cap] rfl
  generalize World.alloc v0 _ = v1 at k0 ⊢
  have K0 := Lib.hid k0
  clear k0
  go_wp2_with fail
  try go_step3
  try go_wp2_with fail
  try go_step3
  try go_wp2_with fail
  go_loopw [9, 15] (fun c9 i wr => ∃ (k : Nat) (wb : World), c9 = .int .i64 0 ∧ i = .int .i64 k ∧ k ≤ m ∧ wb.heap.size = v0.heap.size ∧ S k wb ∧ Kept wb [(v0.heap.size, 26, #[.int .i64 key, .slice (some ⟨bb, oo, none⟩) n cap])] wr) (fun _ i _ => m - (intOf i).toNat)
  case atStart => exact ⟨0, v0, rfl, rfl, Nat.zero_le _, rfl, H0.out, K0.out⟩
  case round =>
    obtain ⟨k, wb, rfl, rfl, hkm, hsz, hs, k1⟩ := hrel
    clear K0 H0
    by_cases hlt : k < m
    · have hlt' : (k : Int) < m := by omega
      obtain ⟨T, D, t0, t1, t2, t3, t4, t5, t6, t7, ct, cv, hT, hA, hD, hct, hcv, hbb, hbT, hbC, hway⟩ := HS.out k wb hs hlt hsz
      have HT := Lib.hid hT
      have HA := Lib.hid hA
      have HD := Lib.hid hD
      have HBB := Lib.hid (And.intro hbb (And.intro hbT hbC))
      have HCT := Lib.hid hct
      have HCV := Lib.hid hcv
      have HW := Lib.hid hway
      have NE := Lib.hid (show gC ≠ gT from fun e => by subst e; unfold CellsAt at hA hD; rw [hA] at hD; simp at hD)
      have HSZ := Lib.hid hsz
      have HKM := Lib.hid hkm
      clear HS HE hs hT hA hD hct hcv hbb hbT hbC hway hsz hkm
      obtain ⟨kc0, kf0, -⟩ := k1.rd
      have q0 := (k1.1.cell (p := ⟨gC, q + k * 2, none⟩) HD.out.lt).trans HCT.out
      have q1 := (k1.1.cell (p := ⟨gC, q + k * 2 + 1, none⟩) HD.out.lt).trans HCV.out
      go_upto_region 5 with fail
      have k2 := k1.put1 wr.heap.size 112 #[.int .i64 ct, .int .i64 cv] rfl
      have LW := Lib.hid (k1.lt (x := (v0.heap.size, 26, #[.int .i64 key, .slice (some ⟨bb, oo, none⟩) n cap])) (by simp))
      clear k1 kc0 kf0 q0 q1
      generalize World.alloc wr _ = w2 at k2 ⊢
      refine wp_region_class_tail (C := fun u => Kept wb [(wr.heap.size, 112, #[.int .i64 ct, .int .i64 cv]), (v0.heap.size, 26, #[.int .i64 key, .slice (some ⟨bb, oo, none⟩) n cap])] u) 6 (by kernel_rfl) (by kernel_rfl) k2.drew ?_
      clear k2
      simp only [List.take_succ_cons, List.take_zero, List.drop_succ_cons, List.drop_zero]
      iterate 6 (first
        | go_big_quiet_skip
        | (go_big_quiet_want
           go_big_quiet_op
           first
             | go_big_quiet_on
             | (apply Exists.intro
                refine ⟨fun u hu => ?_, ?_⟩
                · first
                    | with_reducible rfl
                    | (obtain ⟨kc0, kf0, kc1, kf1, -⟩ := hu.rd; obtain ⟨c0, c1, c2, c3, c4, c5, c6, c7, hf⟩ := putT_8 HT.out (HA.out.below hu.1 HA.out.lt); go_simp; first | done | with_reducible rfl)
                go_big_quiet_on)))
      refine wpQuiet_nil ?_
      intro w3 k3
      obtain ⟨kc0, kf0, kc1, kf1, -⟩ := k3.rd; obtain ⟨c0, c1, c2, c3, c4, c5, c6, c7, hf⟩ := putT_8 HT.out (HA.out.below k3.1 HA.out.lt)
      go_wp2_with fail
      rcases HW.out with ⟨a, s0, s1, s2, s3, s4, s5, s6, s7, d1, d2, code, R, Q, hg, hP⟩ | ⟨f, y1, y2, z3, z6, cnt, rfl, hcc, hw, R, FC, GC, hnext⟩
      · clear HW
        have QC := Lib.hid Q
        have HG := Lib.hid hg
        have HP := Lib.hid hP
        clear Q hg hP
        refine (R _ k3.1).mono ?_; rintro e w4 ⟨p, rfl, hr4, b4⟩
        have k4 := k3.below b4
        clear k3 b4 kc0 kf0 kc1 kf1 c0 c1 c2 c3 c4 c5 c6 c7 hf R
        have LC := Lib.hid (leftBy_calls p a s0 s1 s2 s3 s4 s5 s6 s7 d1 d2 w4 ((k4.1.cell (cell_lt HG.out)).trans HG.out) hr4)
        go_wp2_with fail
        refine LC.out.mono ?_; rintro e w5 ⟨rfl, b5⟩
        have k5 := k4.below b5
        have hr5 := hr4.below b5 hr4.lt
        clear k4 hr4 b5 LC HG
        obtain ⟨kc0, kf0, kc1, kf1, -⟩ := k5.rd; obtain ⟨c0, c1, c2, c3, c4, c5, c6, c7, hf⟩ := putT_8 HT.out (HA.out.below k5.1 HA.out.lt)
        have q0 := (k5.1.cell (p := ⟨gC, q + k * 2, none⟩) HD.out.lt).trans HCT.out
        have q1 := (k5.1.cell (p := ⟨gC, q + k * 2 + 1, none⟩) HD.out.lt).trans HCV.out
        have qf : ∀ i, w5.frozen? ⟨gC, i, none⟩ = false := (HD.out.below k5.1 HD.out.lt).frozen
        have ne1 : ¬ gC = gT := NE.out
        have ne2 : ¬ gT = gC := fun e => NE.out e.symm
        have p1 := tru8O_put (x0 := .int .i64 s0) (x1 := .int .i64 s1) (x2 := .int .i64 s2) (x3 := .int .i64 s3) (x4 := .int .i64 s4) (x5 := .int .i64 s5) (x6 := .int .i64 s6) (x7 := .bool s7) HT.out (HA.out.below k5.1 HA.out.lt)
        have k6 := k5.turn HA.out p1.2 p1.1
        have r1 : ¬ p = gT := fun e => by subst e; have h1 := HA.out.below k5.1 HA.out.lt; unfold CellsAt at h1 hr5; rw [h1] at hr5; simp at hr5
        have r2 : ¬ p = gC := fun e => by subst e; have h1 := HD.out.below k5.1 HD.out.lt; unfold CellsAt at h1 hr5; rw [h1] at hr5; simp at hr5
        have hr6 := hr5.grown p1.2 (by intro e; injection e with e; exact r1 e)
        have hD6 := (HD.out.below k5.1 HD.out.lt).grown p1.2 (by intro e; injection e with e; exact ne1 e)
        have p2 := cel_putO (q := q + k * 2) hD6 (.int .i64 d1) (.int .i64 d2)
        have k7 := k6.turn (rowT_else HD.out NE.out _) p2.2 p2.1
        have hr7 := hr6.grown p2.2 (by intro e; injection e with e; exact r2 e)
        have K7 := Lib.hid k7
        have R7 := Lib.hid hr7
        clear p1 p2 k6 k7 hr6 hr7 hr5 r1 r2 k5 hD6
        go_upto_region 8 with fail
        have k7 := K7.out
        have r7 := R7.out
        clear K7 R7 kc0 kf0 kc1 kf1 c0 c1 c2 c3 c4 c5 c6 c7 hf q0 q1 qf ne1 ne2
        generalize World.setCell _ _ _ = w7 at k7 r7 ⊢
        go_wp2_with fail
        refine (QC.out _ p k7.1 r7).mono ?_; rintro e w8 ⟨rfl, rfl⟩
        have K7 := Lib.hid k7
        clear k7 r7 QC
        go_wp2_with fail
        try rw [Exit.noGoto_ret]
        go_ret
        exact ⟨code, _, rfl, by simpa using HSZ.out, K7.out.sub (by intro y hy; cases hy), HP.out⟩
      · clear HW
        have FCK := Lib.hid FC
        have GCK := Lib.hid GC
        have HN := Lib.hid hnext
        have HCC := Lib.hid hcc
        clear FC GC hnext hcc
        refine (R _ k3.1).mono ?_; rintro e w4 ⟨rfl, b4⟩
        have k4 := k3.below b4
        clear k3 b4 kc0 kf0 kc1 kf1 c0 c1 c2 c3 c4 c5 c6 c7 hf R
        go_upto_region 9 with fail
        refine wp_region_free [false, false, false, false, false, false, false, true, false, true, false, true, true, false, true, false, true] (ShV [(7, .int .i64 f), (9, .pointer (some ⟨gT, o, none⟩)), (11, .int .i64 t2), (12, .int .i64 (f + t2)), (14, .agg #[.int .i64 y1, .int .i64 y2])]) (fun D9 _ u => GoC (fun u => Kept wb [(wr.heap.size, 112, #[.int .i64 ct, .int .i64 cv]), (v0.heap.size, 26, #[.int .i64 key, .slice (some ⟨bb, oo, none⟩) n cap])] u) (fun u => Kept (wb.setRow gT (putT T o [.int .i64 (t0 + 1), .int .i64 t1, .int .i64 (t2 + 1), .int .i64 z3, .int .i64 t4, .int .i64 t5, .int .i64 z6, .bool false])) [(wr.heap.size, 112, #[.int .i64 ct, .int .i64 cv]), (v0.heap.size, 26, #[.int .i64 key, .slice (some ⟨bb, oo, none⟩) n cap])] u) (fun u => Kept ((wb.setRow gT (putT T o [.int .i64 (t0 + 1), .int .i64 t1, .int .i64 (t2 + 1), .int .i64 z3, .int .i64 t4, .int .i64 t5, .int .i64 z6, .bool false])).setRow gC ((D.setIfInBounds (q + k * 2) (.int .i64 y1)).setIfInBounds (q + k * 2 + 1) (.int .i64 y2))) [(wr.heap.size, 112, #[.int .i64 ct, .int .i64 cv]), (v0.heap.size, 26, #[.int .i64 key, .slice (some ⟨bb, oo, none⟩) n cap])] u) D9 u) (by kernel_rfl) (by kernel_rfl) (fun γ => by kernel_rfl) (fun D9 γ γ' w _ h => h) (ShV.inh _) (fun γ => GoC.start k4.drew) (fun γ hγ => ?_)
        clear k4
        have g7 : γ 7 = .int .i64 f := hγ 7 rfl
        have g9 : γ 9 = .pointer (some ⟨gT, o, none⟩) := hγ 9 rfl
        have g11 : γ 11 = .int .i64 t2 := hγ 11 rfl
        have g12 : γ 12 = .int .i64 (f + t2) := hγ 12 rfl
        have g14 : γ 14 = .agg #[.int .i64 y1, .int .i64 y2] := hγ 14 rfl
        have g16 : γ 16 = undef := hγ 16 rfl
        apply Exists.intro
        refine ⟨fun D9 => ?_, ?_, ?_⟩
        · simp only [hushL, cond_true, cond_false, Nat.reduceAdd, g7, g9, g11, g12, g14, g16]
          iterate 17 (first
            | go_big_quiet_skip
            | (go_big_quiet_want
               go_big_quiet_op
               first
                 | go_big_quiet_on
                 | (apply Exists.intro
                    refine ⟨fun u hu => ?_, ?_⟩
                    · first
                        | with_reducible rfl
                        | (obtain ⟨kc0, kf0, kc1, kf1, -⟩ := GoC.all hu (R := fun u => Rd u [(wr.heap.size, 112, #[.int .i64 ct, .int .i64 cv]), (v0.heap.size, 26, #[.int .i64 key, .slice (some ⟨bb, oo, none⟩) n cap])]) (fun h => h.rd) (fun h => h.rd) (fun h => h.rd); go_simp; first | done | with_reducible rfl)
                    go_big_quiet_on)))
          exact wpQuiet_nil rfl
        · simp only [freeOk, Nat.reduceAdd]
          refine ⟨fun D1 u hD1 hd hu => ?_, fun D1 u hD1 hd hu => ?_, fun D1 u hD1 hd hu => ?_, fun D1 u hD1 hd hu => ?_, fun D1 u hD1 hd hu => ?_, fun D1 u hD1 hd hu => ?_, trivial⟩
          · have e14 := GoC.bf (fun e => (hu.1 e).2) hD1
            have kk := hu.2.2.2.1 e14
            exact steps_call ((FCK.out u kk.1).mono fun e w' ⟨he, hb⟩ => ⟨_, he, rfl, hu.on 7 (.inl rfl) e14 (GoC.bf hu.2.2.1 e14) (fun e => by cases e) (kk.below hb)⟩) rfl rfl rfl rfl (by kernel_rfl)
          · exact steps_nilN rfl rfl ⟨rfl, hu.nil⟩
          · have e12 := GoC.bf (fun e => (hu.2.1 e).1) hD1
            have e14 := (hu.pre12 e12).1
            have kk := hu.2.2.2.1 e14
            exact steps_loadN (putT_8 HT.out (HA.out.below kk.1 HA.out.lt)).2.2.1 rfl rfl ⟨_, Tryz.underlying2⟩ ⟨rfl, hu.on 11 (.inr (.inl rfl)) e14 (hu.pre12 e12).2 (fun e => by cases e) kk⟩
          · have d7 := hd { on := 7, ground := Ground.data } (by simp) rfl rfl
            have d11 := hd { on := 11, ground := Ground.data } (by simp) rfl rfl
            have e14 := (hu.pre12 hD1).1
            have kk := hu.2.2.2.1 e14
            exact steps_addN rfl (a := f) (b := t2) rfl rfl ⟨by rw [hw]; rfl, hu.on 12 (.inr (.inr rfl)) e14 (hu.pre12 hD1).2 (fun _ => ⟨d11, d7⟩) kk⟩
          · have d7 := hd { on := 7, ground := Ground.chain } (by simp) rfl rfl
            have d12 := hd { on := 12, ground := Ground.data } (by simp) rfl rfl
            have kk := hu.2.2.2.1 hD1
            exact steps_call ((GCK.out u (HA.out.below kk.1 HA.out.lt)).mono fun e w' ⟨he, hg, hc⟩ => ⟨_, he, rfl, hu.did hD1 d12 d7 (kk.turn HA.out hg hc)⟩) rfl rfl rfl rfl (by kernel_rfl)
          · have d14 := hd { on := 14, ground := Ground.data } (by simp) rfl rfl
            have kk := hu.2.2.2.2.1 d14 hD1
            have hDA := rowT_else HD.out NE.out ((putT T o [.int .i64 (t0 + 1), .int .i64 t1, .int .i64 (t2 + 1), .int .i64 z3, .int .i64 t4, .int .i64 t5, .int .i64 z6, .bool false]))
            have hDu := hDA.below kk.1 hDA.lt
            have z0 : u.cell? ⟨gC, q + k * 2, none⟩ = some (.int .i64 ct) := (hDu.cell _).trans ((HD.out.cell _).symm.trans HCT.out)
            have z1 : u.cell? ⟨gC, q + k * 2 + 1, none⟩ = some (.int .i64 cv) := (hDu.cell _).trans ((HD.out.cell _).symm.trans HCV.out)
            have p2 := cel_putO (q := q + k * 2) hDu (.int .i64 y1) (.int .i64 y2)
            exact steps_storeO z0 z1 hDu.frozen rfl rfl rfl (by kernel_rfl) (by simp [Value.oneCell']) ⟨rfl, hu.put d14 (kk.turn hDA p2.2 p2.1)⟩
        intro D1 w7 hD1 hu
        have k7 := hu.2.2.2.2.2 (hD1 16 (by simp) rfl)
        clear hu hD1 FCK GCK g7 g9 g11 g12 g14 g16 hγ
        have HB2 := Lib.hid (show CellsAt ((wb.setRow gT (putT T o [.int .i64 (t0 + 1), .int .i64 t1, .int .i64 (t2 + 1), .int .i64 z3, .int .i64 t4, .int .i64 t5, .int .i64 z6, .bool false])).setRow gC ((D.setIfInBounds (q + k * 2) (.int .i64 y1)).setIfInBounds (q + k * 2 + 1) (.int .i64 y2))) gT 80 (putT T o [.int .i64 (t0 + 1), .int .i64 t1, .int .i64 (t2 + 1), .int .i64 z3, .int .i64 t4, .int .i64 t5, .int .i64 z6, .bool false]) from rowT_else (rowT_new HA.out _) (fun e => NE.out e.symm) _)
        have HCC2 := Lib.hid (show ((wb.setRow gT (putT T o [.int .i64 (t0 + 1), .int .i64 t1, .int .i64 (t2 + 1), .int .i64 z3, .int .i64 t4, .int .i64 t5, .int .i64 z6, .bool false])).setRow gC ((D.setIfInBounds (q + k * 2) (.int .i64 y1)).setIfInBounds (q + k * 2 + 1) (.int .i64 y2))).cell? ⟨bb, oo + r, none⟩ = some (.int .i64 cnt) from (cell_setRow_other _ gC _ ⟨bb, oo + r, none⟩ HBB.out.2.2).trans ((cell_setRow_other wb gT _ ⟨bb, oo + r, none⟩ HBB.out.2.1).trans HCC.out))
        clear HCC
        rcases HN.out with ⟨hlt2, hS⟩ | ⟨hge, hz, h1, h1', hP⟩ | ⟨hge, hz, hP⟩
        · have hd : decide (t2 + 1 < cnt) = true := decide_eq_true hlt2
          have HSN := Lib.hid hS
          clear HN hlt2 hS
          go_upto_region 11 with fail
          refine wp_region_class (C := fun u => Kept ((wb.setRow gT (putT T o [.int .i64 (t0 + 1), .int .i64 t1, .int .i64 (t2 + 1), .int .i64 z3, .int .i64 t4, .int .i64 t5, .int .i64 z6, .bool false])).setRow gC ((D.setIfInBounds (q + k * 2) (.int .i64 y1)).setIfInBounds (q + k * 2 + 1) (.int .i64 y2))) [(wr.heap.size, 112, #[.int .i64 ct, .int .i64 cv]), (v0.heap.size, 26, #[.int .i64 key, .slice (some ⟨bb, oo, none⟩) n cap])] u) (by kernel_rfl) (by kernel_rfl) k7.drew ?_
          clear k7
          iterate 11 (first
            | go_big_quiet_skip
            | (go_big_quiet_want
               go_big_quiet_op
               first
                 | go_big_quiet_on
                 | (apply Exists.intro
                    refine ⟨fun u hu => ?_, ?_⟩
                    · first
                        | with_reducible rfl
                        | (obtain ⟨kc0, kf0, kc1, kf1, -⟩ := hu.rd; obtain ⟨c0, c1, c2, c3, c4, c5, c6, c7, hf⟩ := putT_8 HT.out (HB2.out.below hu.1 HB2.out.lt); have f0 := (hu.1.cell (p := ⟨bb, oo + r, none⟩) (by simpa using HBB.out.1)).trans HCC2.out; go_simp; first | done | with_reducible rfl)
                    go_big_quiet_on)))
          refine wpQuiet_nil ?_
          intro w8 k8
          have K8 := Lib.hid k8
          clear k8
          go_wp2_with fail
          go_roundw
          case rel => exact ⟨k + 1, _, rfl, by go_num, by omega, by simpa using HSZ.out, HSN.out, K8.out.sub (by intro y hy; simp at hy ⊢; rcases hy with rfl; simp)⟩
          case measure => simp [intOf]; omega
        · have hd : decide (t2 + 1 < cnt) = false := decide_eq_false (Int.not_lt.2 hge)
          have HPP := Lib.hid hP
          have PA := Lib.hid (fun (u : World) (h : CellsAt u gT 80 (putT T o [.int .i64 (t0 + 1), .int .i64 t1, .int .i64 (t2 + 1), .int .i64 z3, .int .i64 t4, .int .i64 t5, .int .i64 z6, .bool false])) => passO_calls gT T o HT.out (t0 + 1) t1 (t2 + 1) z3 t4 t5 z6 false u h1 h1' h)
          clear HN hge hP h1 h1'
          go_upto_region 11 with fail
          refine wp_region_class (C := fun u => Kept ((wb.setRow gT (putT T o [.int .i64 (t0 + 1), .int .i64 t1, .int .i64 (t2 + 1), .int .i64 z3, .int .i64 t4, .int .i64 t5, .int .i64 z6, .bool false])).setRow gC ((D.setIfInBounds (q + k * 2) (.int .i64 y1)).setIfInBounds (q + k * 2 + 1) (.int .i64 y2))) [(wr.heap.size, 112, #[.int .i64 ct, .int .i64 cv]), (v0.heap.size, 26, #[.int .i64 key, .slice (some ⟨bb, oo, none⟩) n cap])] u) (by kernel_rfl) (by kernel_rfl) k7.drew ?_
          clear k7
          iterate 11 (first
            | go_big_quiet_skip
            | (go_big_quiet_want
               go_big_quiet_op
               first
                 | go_big_quiet_on
                 | (apply Exists.intro
                    refine ⟨fun u hu => ?_, ?_⟩
                    · first
                        | with_reducible rfl
                        | (obtain ⟨kc0, kf0, kc1, kf1, -⟩ := hu.rd; obtain ⟨c0, c1, c2, c3, c4, c5, c6, c7, hf⟩ := putT_8 HT.out (HB2.out.below hu.1 HB2.out.lt); have f0 := (hu.1.cell (p := ⟨bb, oo + r, none⟩) (by simpa using HBB.out.1)).trans HCC2.out; go_simp; first | done | with_reducible rfl)
                    go_big_quiet_on)))
          refine wpQuiet_nil ?_
          intro w8 k8
          go_upto_region 12 with fail
          refine wp_region_class (C := fun u => Kept ((wb.setRow gT (putT T o [.int .i64 (t0 + 1), .int .i64 t1, .int .i64 (t2 + 1), .int .i64 z3, .int .i64 t4, .int .i64 t5, .int .i64 z6, .bool false])).setRow gC ((D.setIfInBounds (q + k * 2) (.int .i64 y1)).setIfInBounds (q + k * 2 + 1) (.int .i64 y2))) [(wr.heap.size, 112, #[.int .i64 ct, .int .i64 cv]), (v0.heap.size, 26, #[.int .i64 key, .slice (some ⟨bb, oo, none⟩) n cap])] u) (by kernel_rfl) (by kernel_rfl) k8.drew ?_
          clear k8
          iterate 10 (first
            | go_big_quiet_skip
            | (go_big_quiet_want
               go_big_quiet_op
               first
                 | go_big_quiet_on
                 | (apply Exists.intro
                    refine ⟨fun u hu => ?_, ?_⟩
                    · first
                        | with_reducible rfl
                        | (obtain ⟨kc0, kf0, kc1, kf1, -⟩ := hu.rd; obtain ⟨c0, c1, c2, c3, c4, c5, c6, c7, hf⟩ := putT_8 HT.out (HB2.out.below hu.1 HB2.out.lt); go_simp; first | done | with_reducible rfl)
                    go_big_quiet_on)))
          refine wpQuiet_nil ?_
          intro w9 k9
          go_wp2_with fail
          refine (PA.out _ (HB2.out.below k9.1 HB2.out.lt)).mono ?_; rintro e w10 ⟨rfl, g10, c10⟩
          have K10 := Lib.hid (k9.turn HB2.out g10 c10)
          clear k9 g10 c10 PA
          go_wp2_with fail
          try rw [Exit.noGoto_ret]
          go_ret
          exact ⟨5, _, rfl, by simpa using HSZ.out, K10.out.sub (by intro y hy; cases hy), by rw [setRow_three (fun e => NE.out e.symm)]; exact HPP.out⟩
        · have hd : decide (t2 + 1 < cnt) = false := decide_eq_false (Int.not_lt.2 hge)
          have HPP := Lib.hid hP
          have PA := Lib.hid (fun (u : World) (h : CellsAt u gT 80 (putT T o [.int .i64 (t0 + 1), .int .i64 t1, .int .i64 (t2 + 1), .int .i64 z3, .int .i64 t4, .int .i64 t5, .int .i64 z6, .bool false])) => failO_calls gT T o HT.out (t0 + 1) t1 (t2 + 1) z3 t4 t5 z6 false u h)
          clear HN hge hP
          go_upto_region 11 with fail
          refine wp_region_class (C := fun u => Kept ((wb.setRow gT (putT T o [.int .i64 (t0 + 1), .int .i64 t1, .int .i64 (t2 + 1), .int .i64 z3, .int .i64 t4, .int .i64 t5, .int .i64 z6, .bool false])).setRow gC ((D.setIfInBounds (q + k * 2) (.int .i64 y1)).setIfInBounds (q + k * 2 + 1) (.int .i64 y2))) [(wr.heap.size, 112, #[.int .i64 ct, .int .i64 cv]), (v0.heap.size, 26, #[.int .i64 key, .slice (some ⟨bb, oo, none⟩) n cap])] u) (by kernel_rfl) (by kernel_rfl) k7.drew ?_
          clear k7
          iterate 11 (first
            | go_big_quiet_skip
            | (go_big_quiet_want
               go_big_quiet_op
               first
                 | go_big_quiet_on
                 | (apply Exists.intro
                    refine ⟨fun u hu => ?_, ?_⟩
                    · first
                        | with_reducible rfl
                        | (obtain ⟨kc0, kf0, kc1, kf1, -⟩ := hu.rd; obtain ⟨c0, c1, c2, c3, c4, c5, c6, c7, hf⟩ := putT_8 HT.out (HB2.out.below hu.1 HB2.out.lt); have f0 := (hu.1.cell (p := ⟨bb, oo + r, none⟩) (by simpa using HBB.out.1)).trans HCC2.out; go_simp; first | done | with_reducible rfl)
                    go_big_quiet_on)))
          refine wpQuiet_nil ?_
          intro w8 k8
          go_upto_region 12 with fail
          refine wp_region_class (C := fun u => Kept ((wb.setRow gT (putT T o [.int .i64 (t0 + 1), .int .i64 t1, .int .i64 (t2 + 1), .int .i64 z3, .int .i64 t4, .int .i64 t5, .int .i64 z6, .bool false])).setRow gC ((D.setIfInBounds (q + k * 2) (.int .i64 y1)).setIfInBounds (q + k * 2 + 1) (.int .i64 y2))) [(wr.heap.size, 112, #[.int .i64 ct, .int .i64 cv]), (v0.heap.size, 26, #[.int .i64 key, .slice (some ⟨bb, oo, none⟩) n cap])] u) (by kernel_rfl) (by kernel_rfl) k8.drew ?_
          clear k8
          iterate 10 (first
            | go_big_quiet_skip
            | (go_big_quiet_want
               go_big_quiet_op
               first
                 | go_big_quiet_on
                 | (apply Exists.intro
                    refine ⟨fun u hu => ?_, ?_⟩
                    · first
                        | with_reducible rfl
                        | (obtain ⟨kc0, kf0, kc1, kf1, -⟩ := hu.rd; obtain ⟨c0, c1, c2, c3, c4, c5, c6, c7, hf⟩ := putT_8 HT.out (HB2.out.below hu.1 HB2.out.lt); go_simp; first | done | with_reducible rfl)
                    go_big_quiet_on)))
          refine wpQuiet_nil ?_
          intro w9 k9
          go_wp2_with fail
          refine (PA.out _ (HB2.out.below k9.1 HB2.out.lt)).mono ?_; rintro e w10 ⟨rfl, g10, c10⟩
          have K10 := Lib.hid (k9.turn HB2.out g10 c10)
          clear k9 g10 c10 PA
          go_wp2_with fail
          try rw [Exit.noGoto_ret]
          go_ret
          exact ⟨4, _, rfl, by simpa using HSZ.out, K10.out.sub (by intro y hy; cases hy), by rw [setRow_three (fun e => NE.out e.symm)]; exact HPP.out⟩
    · obtain rfl : k = m := by omega
      have HP := Lib.hid (HE.out wb hs)
      clear HS HE hs
      have hnlt : ¬ ((k : Nat) : Int) < k := by omega
      go_wp2_with fail
      try rw [Exit.noGoto_ret]
      go_ret
      exact ⟨0, wb, rfl, hsz, k1.sub (by intro y hy; cases hy), HP.out⟩
theorem putT_same {T : Array Value} {o : Nat} {V : List Value} (h : ∀ k, k < V.length → T[o + k]? = V[k]?) : putT T o V = T := by
  apply Array.ext_getElem?
  intro i
  unfold putT
  rw [Array.getElem?_mapIdx]
  rcases Nat.lt_or_ge i T.size with hi | hi
  · rw [Array.getElem?_eq_getElem hi]
    simp only [Option.map_some]
    by_cases h2 : o ≤ i
    · rw [if_pos h2]
      rcases Nat.lt_or_ge (i - o) V.length with h3 | h3
      · have h4 := h (i - o) h3
        rw [show o + (i - o) = i by omega, Array.getElem?_eq_getElem hi] at h4
        rw [← h4]; rfl
      · rw [List.getElem?_eq_none h3]; rfl
    · rw [if_neg h2]
  · rw [Array.getElem?_eq_none hi]; rfl
theorem grown_setRow (w : World) (g : Nat) (cs : Array Value) : w.grownBy (w.setRow g cs) (some g) := ⟨rfl, rfl, rfl, by simp, fun k _ hk => setRow_other w g k cs (fun e => hk (by rw [e]))⟩
theorem TrRow.turn {w : World} {base c g k : Nat} {L : List Tru} (h : TrRow w base (.slice (some ⟨g, 0, none⟩) L.length c) L) (hk : k < L.length) :
    ∃ T, k * 8 + 8 ≤ T.size ∧ CellsAt w g 80 (putT T (k * 8) (truV (L.getD k default))) ∧ ∀ (u' : World) (t' : Tru), CellsAt u' g 80 (putT T (k * 8) (truV t')) → TrRow u' base (.slice (some ⟨g, 0, none⟩) L.length c) (L.set k t') := by
  have h0 := h
  obtain ⟨p0, p1, p2, p3, p4, p5, p6, p7⟩ := h.here hk
  rcases h.2 with ⟨h1, _⟩ | ⟨g', cap, cur, e1, hb, hg, hnc, hcm, hcs, htake⟩
  · cases h1
  · simp only [Value.slice.injEq, Option.some.injEq, Addr.mk.injEq, and_true, true_and] at e1
    obtain ⟨rfl, rfl⟩ := e1
    have hg' : CellsAt w g 80 cur := hg
    have hsz : k * 8 + 8 ≤ cur.size := by rw [hcs]; have := Nat.mul_le_mul_right 8 (show k + 1 ≤ c by omega); omega
    have he : putT cur (k * 8) (truV (L.getD k default)) = cur := by
      apply putT_same
      intro j hj
      rw [← hg'.cell]
      have hj8 : j < 8 := hj
      rcases (by omega : j = 0 ∨ j = 1 ∨ j = 2 ∨ j = 3 ∨ j = 4 ∨ j = 5 ∨ j = 6 ∨ j = 7) with rfl | rfl | rfl | rfl | rfl | rfl | rfl | rfl
      · exact p0
      · exact p1
      · exact p2
      · exact p3
      · exact p4
      · exact p5
      · exact p6
      · exact p7
    refine ⟨cur, hsz, by rw [he]; exact hg', fun u' t' hu => ?_⟩
    have hc0 : CellsAt w g 80 (putT cur (k * 8) (truV (L.getD k default))) := by rw [he]; exact hg'
    have h8 := tru8O_put (x0 := .int .i64 t'.clock) (x1 := .int .i64 t'.epoch) (x2 := .int .i64 t'.cursor) (x3 := .int .i64 t'.read) (x4 := .int .i64 t'.written) (x5 := .int .i64 t'.nread) (x6 := .int .i64 t'.nwritten) (x7 := .bool t'.failed) hsz hc0
    have hr := h0.set_ hk t'
    unfold TrRow SRow at hr ⊢
    rw [List.length_set] at hr ⊢
    exact row_same hr (fun q e => by
      injection e with e
      subst e
      exact (show u'.heap[g]? = _ from hu).trans h8.1.symm)
theorem ClRow.turn {w : World} {base c g k : Nat} {L : List Ce} (h : ClRow w base (.slice (some ⟨g, 0, none⟩) L.length c) L) (hk : k < L.length) :
    ∃ D, CellsAt w g 112 D ∧ D[k * 2]? = some (.int .i64 (L.getD k default).1) ∧ D[k * 2 + 1]? = some (.int .i64 (L.getD k default).2) ∧
      ∀ (u' : World) (c' : Ce), CellsAt u' g 112 ((D.setIfInBounds (k * 2) (.int .i64 c'.1)).setIfInBounds (k * 2 + 1) (.int .i64 c'.2)) → ClRow u' base (.slice (some ⟨g, 0, none⟩) L.length c) (L.set k c') := by
  have h0 := h
  obtain ⟨p0, p1⟩ := h.here hk
  rcases h.2 with ⟨h1, _⟩ | ⟨g', cap, cur, e1, hb, hg, hnc, hcm, hcs, htake⟩
  · cases h1
  · simp only [Value.slice.injEq, Option.some.injEq, Addr.mk.injEq, and_true, true_and] at e1
    obtain ⟨rfl, rfl⟩ := e1
    have hg' : CellsAt w g 112 cur := hg
    refine ⟨cur, hg', by rw [← hg'.cell]; exact p0, by rw [← hg'.cell]; exact p1, fun u' c' hu => ?_⟩
    have h2 := cel_putO (q := k * 2) hg' (.int .i64 c'.1) (.int .i64 c'.2)
    have hr := h0.set_ hk c'
    unfold ClRow SRow at hr ⊢
    rw [List.length_set] at hr ⊢
    exact row_same hr (fun q e => by
      injection e with e
      subst e
      exact (show u'.heap[g]? = _ from hu).trans h2.1.symm)
theorem VolO.turn2 {w : World} {base : Nat} {x : VolN} {A B C : Option Addr} {c d e g o sc n0 n1 n2 : Nat} {i j : Nat} (h : VolO w base x (.agg #[.int .i64 x.key, .slice A n0 c, .slice B n1 d, .slice C n2 e, .slice (some ⟨g, o, none⟩) 2 sc, .int .i64 x.count])) (hi : i < x.trusts.length) (hj : j < x.cells.length) :
    ∃ gT gC T D, B = some ⟨gT, 0, none⟩ ∧ C = some ⟨gC, 0, none⟩ ∧ base ≤ gT ∧ base ≤ gC ∧ gC ≠ gT ∧ i * 8 + 8 ≤ T.size ∧ CellsAt w gT 80 (putT T (i * 8) (truV (x.trusts.getD i default))) ∧ CellsAt w gC 112 D ∧
      D[j * 2]? = some (.int .i64 (x.cells.getD j default).1) ∧ D[j * 2 + 1]? = some (.int .i64 (x.cells.getD j default).2) ∧
      ∀ (t' : Tru) (c' : Ce), VolO ((w.setRow gT (putT T (i * 8) (truV t'))).setRow gC ((D.setIfInBounds (j * 2) (.int .i64 c'.1)).setIfInBounds (j * 2 + 1) (.int .i64 c'.2))) base { x with trusts := x.trusts.set i t', cells := x.cells.set j c' } (.agg #[.int .i64 x.key, .slice A n0 c, .slice B n1 d, .slice C n2 e, .slice (some ⟨g, o, none⟩) 2 sc, .int .i64 x.count]) := by
  obtain ⟨gT, rfl, hbT, -, hrT, hsT⟩ := h.trustsGet (by omega)
  obtain ⟨gC, rfl, hbC, -, hrC, -⟩ := h.cellsGet (by omega)
  obtain ⟨T, hT, hA, hnT⟩ := hrT.turn hi
  obtain ⟨D, hD, d0, d1, hnC⟩ := hrC.turn hj
  have hne : gC ≠ gT := fun e => by subst e; unfold CellsAt at hA hD; rw [hA] at hD; simp at hD
  refine ⟨gT, gC, T, D, rfl, rfl, hbT, hbC, hne, hT, hA, hD, d0, d1, fun t' c' => ?_⟩
  have h1 := hsT (w.setRow gT (putT T (i * 8) (truV t'))) (x.trusts.set i t') (by simp) (grown_setRow w gT _) (by rw [List.length_set]; exact hnT _ t' (rowT_new hA _))
  obtain ⟨gC', e1, -, -, -, hsC⟩ := h1.cellsGet (by simp only []; omega)
  injection e1 with e1; injection e1 with e1; subst e1
  exact hsC _ (x.cells.set j c') (by simp) (grown_setRow _ gC _) (by rw [List.length_set]; exact hnC _ c' (rowT_new (rowT_else hD hne _) _))
theorem scanRef_failed (a0 a1 a2 a3 : Addr) (key x ct cv : Int) (A : Option Addr) (l : List Int) (cap : Nat) (t0 t1 t2 t3 t4 t5 t6 : Int) (w : World) (hn : l.length ≤ 1048576) (hcap : l.length ≤ cap) (hA : Ints w .i64 w.heap.size A l) (hct : I64 ct) (hcv : I64 cv) (he : Errs w a0 a1 a2 a3) (h : scanOk key l x ⟨t0, t1, t2, t3, t4, t5, t6, true⟩ ct cv) :
    Calls Tryz.prog 166 #[.agg (pA key A l.length cap), .int .i64 x, .agg (tA t0 t1 t2 t3 t4 t5 t6 true), .agg (cA ct cv)] w (RefQ w a1 t0 t1 t2 t3 t4 t5 t6 true ct cv) := by
  have R := fun (u : World) (hb : Below w.heap.size w u) => refd_failed a0 a1 a2 a3 ct cv t0 t1 t2 t3 t4 t5 t6 (t0 == 100000 || t1 == 1000) u (he.below hb)
  have hy := scanB_yes h
  exact (refusedScan_on key x ct cv A l cap t0 t1 t2 t3 t4 t5 t6 true w (fun v w' => ∃ r, v = .iface 207 (.pointer (some ⟨r, 0, none⟩)) ∧ CellsAt w' r 211 #[.iface 264 (.pointer (some a1)), .int .i64 t0, .int .i64 t1, .int .i64 t2, .int .i64 t3, .int .i64 t4, .int .i64 t5, .int .i64 t6, .bool true, .int .i64 ct, .int .i64 cv] ∧ Below w.heap.size w w') hn hcap hA hct hcv (fun u hb => by rw [hy]; exact (R u hb).mono (fun e w' ⟨r, he, hc, hb2⟩ => ⟨_, he, r, rfl, hc, hb.trans (hb2.mono hb.size)⟩))).mono (fun e w' ⟨v, he, r, hv, hc, hb⟩ => ⟨r, by rw [he, hv], hc, hb⟩)
theorem scanRef_spent (a0 a1 a2 a3 : Addr) (key x ct cv : Int) (A : Option Addr) (l : List Int) (cap : Nat) (t0 t1 t2 t3 t4 t5 t6 : Int) (w : World) (hn : l.length ≤ 1048576) (hcap : l.length ≤ cap) (hA : Ints w .i64 w.heap.size A l) (hct : I64 ct) (hcv : I64 cv) (he : Errs w a0 a1 a2 a3) (h : scanOk key l x ⟨t0, t1, t2, t3, t4, t5, t6, false⟩ ct cv) (h1 : 100000 ≤ t0 ∨ 1000 ≤ t1) :
    Calls Tryz.prog 166 #[.agg (pA key A l.length cap), .int .i64 x, .agg (tA t0 t1 t2 t3 t4 t5 t6 false), .agg (cA ct cv)] w (RefQ w a2 t0 t1 t2 t3 t4 t5 t6 false ct cv) := by
  have R := fun (u : World) (hb : Below w.heap.size w u) => refd_spent a0 a1 a2 a3 ct cv t0 t1 t2 t3 t4 t5 t6  u (he.below hb)
  have hy := scanB_yes h
  have ht0 := h.1.2.2.1.2
  have ht1 := h.1.2.2.2.1.2
  simp only [] at ht0 ht1
  have hs : (t0 == 100000 || t1 == 1000) = true := by simp; omega
  exact (refusedScan_on key x ct cv A l cap t0 t1 t2 t3 t4 t5 t6 false w (fun v w' => ∃ r, v = .iface 207 (.pointer (some ⟨r, 0, none⟩)) ∧ CellsAt w' r 211 #[.iface 264 (.pointer (some a2)), .int .i64 t0, .int .i64 t1, .int .i64 t2, .int .i64 t3, .int .i64 t4, .int .i64 t5, .int .i64 t6, .bool false, .int .i64 ct, .int .i64 cv] ∧ Below w.heap.size w w') hn hcap hA hct hcv (fun u hb => by rw [hy, hs]; exact (R u hb).mono (fun e w' ⟨r, he, hc, hb2⟩ => ⟨_, he, r, rfl, hc, hb.trans (hb2.mono hb.size)⟩))).mono (fun e w' ⟨v, he, r, hv, hc, hb⟩ => ⟨r, by rw [he, hv], hc, hb⟩)
theorem scanRef_caught (a0 a1 a2 a3 : Addr) (key x ct cv : Int) (A : Option Addr) (l : List Int) (cap : Nat) (t0 t1 t2 t3 t4 t5 t6 : Int) (w : World) (hn : l.length ≤ 1048576) (hcap : l.length ≤ cap) (hA : Ints w .i64 w.heap.size A l) (hct : I64 ct) (hcv : I64 cv) (he : Errs w a0 a1 a2 a3) (h : scanOk key l x ⟨t0, t1, t2, t3, t4, t5, t6, false⟩ ct cv) (h1 : ¬ (100000 ≤ t0 ∨ 1000 ≤ t1)) (h2 : t0 < ct) :
    Calls Tryz.prog 166 #[.agg (pA key A l.length cap), .int .i64 x, .agg (tA t0 t1 t2 t3 t4 t5 t6 false), .agg (cA ct cv)] w (RefQ w a3 t0 t1 t2 t3 t4 t5 t6 true ct cv) := by
  have R := fun (u : World) (hb : Below w.heap.size w u) => refd_caught a0 a1 a2 a3 ct cv t0 t1 t2 t3 t4 t5 t6  u (he.below hb) h2
  have hy := scanB_yes h
  have ht0 := h.1.2.2.1.2
  have ht1 := h.1.2.2.2.1.2
  simp only [] at ht0 ht1
  have hs : (t0 == 100000 || t1 == 1000) = false := by simp; omega
  exact (refusedScan_on key x ct cv A l cap t0 t1 t2 t3 t4 t5 t6 false w (fun v w' => ∃ r, v = .iface 207 (.pointer (some ⟨r, 0, none⟩)) ∧ CellsAt w' r 211 #[.iface 264 (.pointer (some a3)), .int .i64 t0, .int .i64 t1, .int .i64 t2, .int .i64 t3, .int .i64 t4, .int .i64 t5, .int .i64 t6, .bool true, .int .i64 ct, .int .i64 cv] ∧ Below w.heap.size w w') hn hcap hA hct hcv (fun u hb => by rw [hy, hs]; exact (R u hb).mono (fun e w' ⟨r, he, hc, hb2⟩ => ⟨_, he, r, rfl, hc, hb.trans (hb2.mono hb.size)⟩))).mono (fun e w' ⟨v, he, r, hv, hc, hb⟩ => ⟨r, by rw [he, hv], hc, hb⟩)
theorem scanRef_none (a0 a1 a2 a3 : Addr) (key x ct cv : Int) (A : Option Addr) (l : List Int) (cap : Nat) (t0 t1 t2 t3 t4 t5 t6 : Int) (w : World) (hn : l.length ≤ 1048576) (hcap : l.length ≤ cap) (hA : Ints w .i64 w.heap.size A l) (hct : I64 ct) (hcv : I64 cv) (he : Errs w a0 a1 a2 a3) (h : scanOk key l x ⟨t0, t1, t2, t3, t4, t5, t6, false⟩ ct cv) (h1 : ¬ (100000 ≤ t0 ∨ 1000 ≤ t1)) (h2 : ¬ t0 < ct) :
    Calls Tryz.prog 166 #[.agg (pA key A l.length cap), .int .i64 x, .agg (tA t0 t1 t2 t3 t4 t5 t6 false), .agg (cA ct cv)] w (fun e w' => e = .returned .nilIface ∧ Below w.heap.size w w') := by
  have R := fun (u : World) (hb : Below w.heap.size w u) => refd_none a0 a1 a2 a3 ct cv t0 t1 t2 t3 t4 t5 t6  u (he.below hb) h2
  have hy := scanB_yes h
  have ht0 := h.1.2.2.1.2
  have ht1 := h.1.2.2.2.1.2
  simp only [] at ht0 ht1
  have hs : (t0 == 100000 || t1 == 1000) = false := by simp; omega
  exact (refusedScan_on key x ct cv A l cap t0 t1 t2 t3 t4 t5 t6 false w (fun v w' => v = .nilIface ∧ Below w.heap.size w w') hn hcap hA hct hcv (fun u hb => by rw [hy, hs]; exact (R u hb).mono (fun e w' ⟨he, hb2⟩ => ⟨_, he, rfl, hb.trans (hb2.mono hb.size)⟩))).mono (fun e w' ⟨v, he, hv, hb⟩ => ⟨by rw [he, hv], hb⟩)
end Go.Proofs.YtgaecedhkbneaaaGreatDoor.Mx

import Derived.Test.YteopplldbcgjjaaGreatDoorH33
import Derived.Test.YteopplldbcgjjaaGreatDoorH15
import Derived.Test.YteopplldbcgjjaaGreatDoorH02
import Derived.Test.YteopplldbcgjjaaGreatDoorH07
import Derived.Deep.CutRange
import Derived.Test.YteopplldbcgjjaaGreatDoorH32
import Derived.Test.YteopplldbcgjjaaGreatDoorH12
namespace Go.Proofs.YteopplldbcgjjaaGreatDoor.Mx
open Go.ChangeShapes Go.WideShapes Go.ChangeAt Go.RowKit
set_option linter.unusedVariables false
open Go.Lib (hid)
set_option maxHeartbeats 64000000
theorem cellOf_i64 {key a t v : Int} (hk : I64 key) (ht : I64 t) : I64 (cellOf key a t v).1 ∧ I64 (cellOf key a t v).2 := by
 by_cases h : isKey key ∧ isTri a t v
 ·rw [cellOf_yes h.1 h.2]
  refine ⟨h.2.i64.2.1, ?_⟩
  have hs := streamOf_nat h.1.1 h.1.2 h.2.1.1 h.2.2.1.1
  simp only []
  unfold hiddenOf
  rw [turnOf_yes hs h.2.2.2]
  unfold I64; omega
 ·rw [cellOf_no h]; exact ⟨⟨by decide, by decide⟩, ⟨by decide, by decide⟩⟩
theorem triI64 (a t v : Int) : I64 (tripleIn a t v).1 ∧ I64 (tripleIn a t v).2.1 ∧ I64 (tripleIn a t v).2.2 := by
 by_cases h : isTri a t v
 ·rw [tripleIn_yes h]; exact h.i64
 ·rw [tripleIn_no h]; exact ⟨⟨by decide, by decide⟩, ⟨by decide, by decide⟩, ⟨by decide, by decide⟩⟩
theorem allocP (w : World) (o : Obj) : Below w.heap.size w (w.alloc o) := (Below.refl _ _).alloc (Nat.le_refl _) _
theorem gb_newP {w w' : World} {g b : Nat} (h : w.grownBy w' (some g)) (hb : w.heap.size ≤ b) (i : Nat) (u : Value) : w.grownBy (w'.setCell ⟨b, i, none⟩ u) (some g) :=
 ⟨h.os, h.tape, h.output, by simpa [World.setCell] using h.size, fun k hk hr => (Below.heap_setCell _ _ _ _ (by simp; omega)).trans (h.block k hk hr)⟩
theorem gb_belowP {a b c : World} {g : Nat} (h : a.grownBy b (some g)) (hb : Below a.heap.size b c) : a.grownBy c (some g) :=
 ⟨hb.os.trans h.os, hb.tape.trans h.tape, hb.output.trans h.output, Nat.le_trans h.size hb.size, fun k hk hr => (hb.block k hk).trans (h.block k hk hr)⟩
noncomputable def tagIn (key a x1 x2 : Int) : Int := tagOf key (tripleIn a x1 x2).1 (tripleIn a x1 x2).2.1 (tripleIn a x1 x2).2.2
set_option maxRecDepth 20000 in
theorem added_calls (s key a x1 x2 : Int) (w : World) (ha : I64 a) (h1 : I64 x1) (h2 : I64 x2) :
    Calls Tryz.prog 73 #[.int .i64 s, .int .i64 key, .int .i64 a, .agg (cA x1 x2)] w fun e w' => e = .returned (.int .i64 (addOf s (tagIn key a x1 x2))) ∧ Below w.heap.size w w' := by
 unfold tagIn
 have CT := hid (fun u => ansTripleIn a x1 x2 u ha h1 h2)
 have h3 := triI64 a x1 x2
 generalize (tripleIn a x1 x2).1 = y1 at CT h3 ⊢
 generalize (tripleIn a x1 x2).2.1 = y2 at CT h3 ⊢
 generalize (tripleIn a x1 x2).2.2 = y3 at CT h3 ⊢
 have CG := hid (fun u => tag_calls key y1 y2 y3 u h3.1 h3.2.1 h3.2.2)
 generalize tagOf key y1 y2 y3 = g at CG ⊢
 have CA := hid (fun u => add_calls s g u)
 generalize addOf s g = z at CA ⊢
 have K0 := hid (show Kept w [(w.heap.size, 30, (cA x1 x2))] _ from (Kept.refl w).put1 _ _ (cA x1 x2) rfl)
 clear h3 ha h1 h2
 go_enter Tryz.func73, Tryz.ntmps73
 go_upto_region 1 with fail
 have hk0 := K0.out
 clear K0
 generalize World.alloc _ _ = w0 at hk0 ⊢
 obtain ⟨X0, Y0, -⟩ := hk0.rd
 go_wp2_with fail
 refine (CT.out _).mono ?_; rintro e w2 ⟨rfl, b2⟩
 have hk2 := hk0.below b2
 clear hk0 b2 X0 Y0 CT
 go_wp2_with fail
 refine (CG.out _).mono ?_; rintro e w3 ⟨rfl, b3⟩
 have hk3 := hk2.below b3
 clear hk2 b3 CG
 go_wp2_with fail
 refine (CA.out _).mono ?_; rintro e w4 ⟨rfl, rfl⟩
 go_wp2_with fail
 go_ret
 exact ⟨rfl, hk3.1⟩
set_option maxRecDepth 20000 in
theorem put_calls (key a c s v : Int) (p k : Nat) (cs : Array Value) (w : World) (hkey : I64 key) (ha : I64 a) (hc0 : 0 ≤ c) (hc1 : c ≤ 1000000) (hv : I64 v) (hp : CellsAt w p 28 cs) (e0 : cs[0]? = some (.int .i64 c)) (ek : cs[k]? = some (.int .i64 s)) (k0 : 0 < k) :
    Calls Tryz.prog 38 #[.pointer (some ⟨p, 0, none⟩), .pointer (some ⟨p, k, none⟩), .int .i64 key, .int .i64 a, .int .i64 v] w fun e w' =>
     e = .returned (.agg (cA ((cellOf key a (c + 1) v).1) ((cellOf key a (c + 1) v).2))) ∧ w.grownBy w' (some p) ∧
     CellsAt w' p 28 ((cs.setIfInBounds 0 (.int .i64 (c + 1))).setIfInBounds k (.int .i64 (addOf s (tagIn key a (cellOf key a (c + 1) v).1 (cellOf key a (c + 1) v).2)))) := by
 have hi := cellOf_i64 (a := a) (t := c + 1) (v := v) hkey ⟨by omega, by omega⟩
 have CC := hid (fun u => ansCellOf key a (c + 1) v u hkey ha ⟨by omega, by omega⟩ hv)
 generalize (cellOf key a (c + 1) v).1 = x1 at CC hi ⊢
 generalize (cellOf key a (c + 1) v).2 = x2 at CC hi ⊢
 have CA := hid (fun u => added_calls s key a x1 x2 u ha hi.1 hi.2)
 generalize addOf s (tagIn key a x1 x2) = z at CA ⊢
 have hwc : IntKind.i64.wrap (c + 1) = c + 1 := IntWalk.i64_in _ (by omega)
 have lp := hp.lt
 have P0 := hid (show CellsAt (w.alloc (.cells zC 30)) p 28 cs from hp.below (allocP w _) lp)
 have G0 := hid (show w.grownBy (w.alloc (.cells zC 30)) (some p) from gb_alloc (gb_refl w (some p)) _)
 have R0 := hid (show CellsAt (w.alloc (.cells zC 30)) w.heap.size 30 zC from CellsAt.new w _ _)
 have E0 := hid e0
 have EK := hid ek
 have hne : ¬ p = w.heap.size := by omega
 have hne' : ¬ w.heap.size = p := by omega
 clear hp hi ha hkey hv e0 ek
 go_enter Tryz.func38, Tryz.ntmps38
 go_upto_region 1 with fail
 have hp0 := P0.out
 have hg0 := G0.out
 have hr0 := R0.out
 clear P0 G0 R0
 generalize World.alloc _ _ = w0 at hp0 hg0 hr0 ⊢
 have c0 : w0.cell? ⟨p, 0, none⟩ = some (.int .i64 c) := (hp0.cell 0).trans E0.out
 have f0 : ∀ i, w0.frozen? ⟨p, i, none⟩ = false := hp0.frozen
 go_upto_region 2 with fail
 have hp1 := hp0.set_ 0 (.int .i64 (c + 1))
 have hg1 := gb_set hg0 0 (.int .i64 (c + 1))
 have hr1 := hr0.grown (gb_set (gb_refl w0 (some p)) 0 (.int .i64 (c + 1))) (by intro e; injection e; omega)
 clear hp0 hg0 hr0 c0 f0
 generalize World.setCell _ _ _ = w1 at hp1 hg1 hr1 ⊢
 have hsz : cs.size ≠ 0 := by intro h; have := E0.out; rw [Array.getElem?_eq_none (by omega)] at this; cases this
 have c1 : w1.cell? ⟨p, 0, none⟩ = some (.int .i64 (c + 1)) := by rw [hp1.cell 0, Array.getElem?_setIfInBounds_self_of_lt (by omega)]
 go_wp2_with fail
 refine (CC.out _).mono ?_; rintro e w2 ⟨rfl, b2⟩
 have hp2 := hp1.below b2 hp1.lt
 have hr2 := hr1.below b2 hr1.lt
 have hg2 := gb_belowP hg1 (b2.mono hg1.size)
 have l2 : w.heap.size < w2.heap.size := hr2.lt
 clear hp1 hr1 hg1 b2 c1 CC
 have hp3 := hp2.below (allocP w2 (.cells (cA x1 x2) 30)) hp2.lt
 have hr3 := hr2.below (allocP w2 (.cells (cA x1 x2) 30)) hr2.lt
 have hg3 := gb_alloc hg2 (.cells (cA x1 x2) 30)
 have hq3 := CellsAt.new w2 30 (cA x1 x2)
 have hne2 : ¬ p = w2.heap.size := by omega
 have hne2' : ¬ w2.heap.size = p := by omega
 clear hp2 hr2 hg2
 go_upto_region 3 with fail
 generalize hw3 : World.alloc _ _ = w3 at hp3 hr3 hg3 hq3 ⊢
 clear hw3
 have CK : ∀ u, Below w3.heap.size w3 u → u.cell? ⟨p, k, none⟩ = some (.int .i64 s) ∧ (∀ i, u.frozen? ⟨p, i, none⟩ = false) ∧ (∀ i, u.cell? ⟨w2.heap.size, i, none⟩ = (cA x1 x2)[i]?) := fun u hu =>
  ⟨((hp3.below hu hp3.lt).cell k).trans (by rw [Array.getElem?_setIfInBounds_ne (by omega)]; exact EK.out), (hp3.below hu hp3.lt).frozen, (hq3.below hu hq3.lt).cell⟩
 have HK := hid CK
 have HP := hid hp3
 have HR := hid hr3
 have HG := hid hg3
 have HQ := hid hq3
 clear CK hp3 hr3 hg3 hq3 hsz
 refine wp_region_class_tail (C := fun u => Below w3.heap.size w3 u) 9 (by kernel_rfl) (by kernel_rfl) (Below.refl _ _).drew ?_
 simp only [List.take_succ_cons, List.take_zero, List.drop_succ_cons, List.drop_zero]
 iterate 9 (first
  | go_big_quiet_skip
  | (go_big_quiet_want
     go_big_quiet_op
     first
      | go_big_quiet_on
      | (apply Exists.intro
         refine ⟨fun u hu => ?_, ?_⟩
         ·first
            | with_reducible rfl
            | (go_at_call 73; refine (CA.out u).mono ?_; rintro e wx ⟨rfl, bx⟩; exact ⟨rfl, hu.trans (bx.mono hu.size)⟩)
            | (obtain ⟨ck, cf, cq⟩ := HK.out u hu; go_simp; first | done | with_reducible rfl)
         go_big_quiet_on)))
 refine wpQuiet_nil ?_
 intro w4 hb4
 obtain ⟨ck, cf, cq⟩ := HK.out w4 hb4
 have hp4 := HP.out.below hb4 HP.out.lt
 have hr4 := HR.out.below hb4 HR.out.lt
 have hq4 := HQ.out.below hb4 HQ.out.lt
 have hg4 := gb_belowP HG.out (hb4.mono HG.out.size)
 clear HP HR HQ HG HK CA hb4
 go_upto_region 4 with fail
 have hp5 := hp4.set_ k (.int .i64 z)
 have hr5 := hr4.grown (gb_set (gb_refl w4 (some p)) k (.int .i64 z)) (by intro e; injection e; omega)
 have hq5 := hq4.grown (gb_set (gb_refl w4 (some p)) k (.int .i64 z)) (by intro e; injection e; omega)
 have hg5 := gb_set hg4 k (.int .i64 z)
 clear hp4 hr4 hq4 hg4 ck cf cq
 generalize World.setCell _ _ _ = w5 at hp5 hr5 hq5 hg5 ⊢
 have qc : ∀ i, w5.cell? ⟨w2.heap.size, i, none⟩ = (cA x1 x2)[i]? := hq5.cell
 have rc : ∀ i, w5.cell? ⟨w.heap.size, i, none⟩ = zC[i]? := hr5.cell
 have rf : ∀ i, w5.frozen? ⟨w.heap.size, i, none⟩ = false := hr5.frozen
 go_wp2_with fail
 have hr6 := (hr5.set_ 0 (.int .i64 x1)).set_ 1 (.int .i64 x2)
 have hg56 := gb_set (gb_set (gb_refl w5 (some w.heap.size)) 0 (.int .i64 x1)) 1 (.int .i64 x2)
 have hp6 := hp5.grown hg56 (by intro e; injection e; omega)
 have hg6 : w.grownBy _ (some p) := gb_newP (gb_newP hg5 (Nat.le_refl _) 0 (.int .i64 x1)) (Nat.le_refl _) 1 (.int .i64 x2)
 clear qc rc rf hr5 hq5 hp5 hg5 hg56
 generalize World.setCell _ _ _ = w6 at hr6 hp6 hg6 ⊢
 have rc : ∀ i, w6.cell? ⟨w.heap.size, i, none⟩ = (cA x1 x2)[i]? := hr6.cell
 exact bodyPost_ret (v := .agg (cA x1 x2)) (by simp [results, Tryz.results38, go_sem, rc]) rfl ⟨rfl, hg6, hp6⟩
def Errs (w : World) (a0 a1 a2 a3 : Addr) : Prop :=
 w.cell? ⟨4, 0, none⟩ = some hErr ∧ (w.cell? ⟨3, 0, none⟩ = some (.iface 212 (.pointer (some a0))) ∧ w.cell? ⟨0, 0, none⟩ = some (.iface 212 (.pointer (some a1))) ∧ w.cell? ⟨1, 0, none⟩ = some (.iface 212 (.pointer (some a2))) ∧ w.cell? ⟨2, 0, none⟩ = some (.iface 212 (.pointer (some a3)))) ∧
 (a0 ≠ a1 ∧ a0 ≠ a2 ∧ a0 ≠ a3 ∧ a1 ≠ a2 ∧ a1 ≠ a3 ∧ a2 ≠ a3) ∧
 (∃ c t, w.heap[a0.block]? = some (.cells c t (0, 0))) ∧ (∃ c t, w.heap[a1.block]? = some (.cells c t (0, 0))) ∧ (∃ c t, w.heap[a2.block]? = some (.cells c t (0, 0))) ∧ (∃ c t, w.heap[a3.block]? = some (.cells c t (0, 0)))
theorem cell_lt {w : World} {a : Addr} {v : Value} (h : w.cell? a = some v) : a.block < w.heap.size := by
 rcases Nat.lt_or_ge a.block w.heap.size with h' | h'
 ·exact h'
 ·simp [World.cell?, Array.getElem?_eq_none h'] at h
theorem Errs.below {w u : World} {a0 a1 a2 a3 : Addr} (h : Errs w a0 a1 a2 a3) (hb : Below w.heap.size w u) : Errs u a0 a1 a2 a3 := by
 obtain ⟨h0, ⟨g0, g1, g2, g3⟩, hn, ⟨c0, s0, r0⟩, ⟨c1, s1, r1⟩, ⟨c2, s2, r2⟩, ⟨c3, s3, r3⟩⟩ := h
 have K : ∀ {a : Addr} {v : Value}, w.cell? a = some v → u.cell? a = some v := fun hc => (hb.cell (cell_lt hc)).trans hc
 have R : ∀ {b : Nat} {o : Obj}, w.heap[b]? = some o → u.heap[b]? = some o := fun hc => (hb.block _ (Array.getElem?_eq_some_iff.1 hc).1).trans hc
 exact ⟨K h0, ⟨K g0, K g1, K g2, K g3⟩, hn, ⟨c0, s0, R r0⟩, ⟨c1, s1, R r1⟩, ⟨c2, s2, R r2⟩, ⟨c3, s3, R r3⟩⟩
theorem isValueB (s : Int) (w : World) : Calls Tryz.prog 69 #[.int .i64 s] w fun e w' => e = .returned (.bool (decide (isVal s))) ∧ w = w' := by
 by_cases h : isVal s
 ·rw [decide_eq_true h]; exact isValue_yes s w h
 ·rw [decide_eq_false h]; exact isValue_no s w h
open Classical in
noncomputable def touchB (key : Int) (l : List Int) (t : Tru) (x ct cv value : Int) : Bool := decide (touchOk key l t x ct cv value)
open Classical in
theorem touchB_yes {key : Int} {l : List Int} {t : Tru} {x ct cv value : Int} (h : touchOk key l t x ct cv value) : touchB key l t x ct cv value = true := by unfold touchB; exact decide_eq_true h
open Classical in
theorem touchB_no {key : Int} {l : List Int} {t : Tru} {x ct cv value : Int} (h : ¬ touchOk key l t x ct cv value) : touchB key l t x ct cv value = false := by unfold touchB; exact decide_eq_false h
set_option maxRecDepth 20000 in
theorem sumsAt_calls (p : Nat) (b : Bool) (w : World) :
    Calls Tryz.prog 35 #[.pointer (some ⟨p, 0, none⟩), .bool b] w fun e w' => e = .returned (.tuple #[.pointer (some ⟨p, bif b then 5 else 3, none⟩), .pointer (some ⟨p, bif b then 6 else 4, none⟩)]) ∧ Below w.heap.size w w' := by
 cases b
 ·go_enter Tryz.func35, Tryz.ntmps35
  go_upto_region 3 with fail
  refine wp_region_class (C := fun u => Below w.heap.size w u) (by kernel_rfl) (by kernel_rfl) (Below.refl _ _).drew ?_
  iterate 8 (first
   | go_big_quiet_skip
   | (go_big_quiet_want
      go_big_quiet_op
      first
       | go_big_quiet_on
       | (apply Exists.intro
          refine ⟨fun u hu => ?_, ?_⟩
          ·first
             | with_reducible rfl
             | (go_simp; first | done | with_reducible rfl)
          go_big_quiet_on)))
  refine wpQuiet_nil ?_
  intro wz hz
  go_wp2_with fail
  go_ret2
  exact ⟨rfl, hz⟩
 ·go_enter Tryz.func35, Tryz.ntmps35
  go_upto_region 2 with fail
  refine wp_region_class (C := fun u => Below w.heap.size w u) (by kernel_rfl) (by kernel_rfl) (Below.refl _ _).drew ?_
  iterate 8 (first
   | go_big_quiet_skip
   | (go_big_quiet_want
      go_big_quiet_op
      first
       | go_big_quiet_on
       | (apply Exists.intro
          refine ⟨fun u hu => ?_, ?_⟩
          ·first
             | with_reducible rfl
             | (go_simp; first | done | with_reducible rfl)
          go_big_quiet_on)))
  refine wpQuiet_nil ?_
  intro wz hz
  go_wp2_with fail
  go_ret2
  exact ⟨rfl, hz⟩
set_option maxRecDepth 20000 in
theorem take_calls (key a s ct cv : Int) (p k : Nat) (cs : Array Value) (w : World) (hkey : I64 key) (ha : I64 a) (hct : I64 ct) (hcv : I64 cv) (hp : CellsAt w p 28 cs) (ek : cs[k]? = some (.int .i64 s)) :
    Calls Tryz.prog 37 #[.pointer (some ⟨p, k, none⟩), .int .i64 key, .int .i64 a, .agg (cA ct cv)] w fun e w' =>
     e = .returned (.int .i64 (valueIn key a ct cv)) ∧ w.grownBy w' (some p) ∧ CellsAt w' p 28 (cs.setIfInBounds k (.int .i64 (addOf s (tagIn key a ct cv)))) := by
 have CA := hid (fun u => added_calls s key a ct cv u ha hct hcv)
 have CV := hid (fun u => ansValueIn key a ct cv u hkey ha hct hcv)
 generalize addOf s (tagIn key a ct cv) = z at CA ⊢
 generalize valueIn key a ct cv = y at CV ⊢
 have lp := hp.lt
 have P0 := hid (show CellsAt (w.alloc (.cells (cA ct cv) 30)) p 28 cs from hp.below (allocP w _) lp)
 have G0 := hid (show w.grownBy (w.alloc (.cells (cA ct cv) 30)) (some p) from gb_alloc (gb_refl w (some p)) _)
 have R0 := hid (show CellsAt (w.alloc (.cells (cA ct cv) 30)) w.heap.size 30 (cA ct cv) from CellsAt.new w _ _)
 have EK := hid ek
 clear hp hkey ha hct hcv ek
 go_enter Tryz.func37, Tryz.ntmps37
 go_upto_region 1 with fail
 have hp0 := P0.out
 have hg0 := G0.out
 have hr0 := R0.out
 clear P0 G0 R0
 generalize World.alloc _ _ = w0 at hp0 hg0 hr0 ⊢
 have CK : ∀ u, Below w0.heap.size w0 u → u.cell? ⟨p, k, none⟩ = some (.int .i64 s) ∧ (∀ i, u.frozen? ⟨p, i, none⟩ = false) ∧ (∀ i, u.cell? ⟨w.heap.size, i, none⟩ = (cA ct cv)[i]?) := fun u hu =>
  ⟨((hp0.below hu hp0.lt).cell k).trans EK.out, (hp0.below hu hp0.lt).frozen, (hr0.below hu hr0.lt).cell⟩
 have HK := hid CK
 have HP := hid hp0
 have HG := hid hg0
 have HR := hid hr0
 clear CK hp0 hg0 hr0
 refine wp_region_class_tail (C := fun u => Below w0.heap.size w0 u) 9 (by kernel_rfl) (by kernel_rfl) (Below.refl _ _).drew ?_
 simp only [List.take_succ_cons, List.take_zero, List.drop_succ_cons, List.drop_zero]
 iterate 9 (first
  | go_big_quiet_skip
  | (go_big_quiet_want
     go_big_quiet_op
     first
      | go_big_quiet_on
      | (apply Exists.intro
         refine ⟨fun u hu => ?_, ?_⟩
         ·first
            | with_reducible rfl
            | (go_at_call 73; refine (CA.out u).mono ?_; rintro e wx ⟨rfl, bx⟩; exact ⟨rfl, hu.trans (bx.mono hu.size)⟩)
            | (obtain ⟨ck, cf, cq⟩ := HK.out u hu; go_simp; first | done | with_reducible rfl)
         go_big_quiet_on)))
 refine wpQuiet_nil ?_
 intro w4 hb4
 obtain ⟨ck, cf, cq⟩ := HK.out w4 hb4
 have hne : ¬ p = w.heap.size := by omega
 have hp4 := HP.out.below hb4 HP.out.lt
 have hr4 := HR.out.below hb4 HR.out.lt
 have hg4 := gb_belowP HG.out (hb4.mono HG.out.size)
 clear HP HR HG HK CA hb4
 go_upto_region 2 with fail
 have hp5 := hp4.set_ k (.int .i64 z)
 have hr5 := hr4.grown (gb_set (gb_refl w4 (some p)) k (.int .i64 z)) (by intro e; injection e; omega)
 have hg5 := gb_set hg4 k (.int .i64 z)
 clear hp4 hr4 hg4 ck cf cq
 generalize World.setCell _ _ _ = w5 at hp5 hr5 hg5 ⊢
 have rc : ∀ i, w5.cell? ⟨w.heap.size, i, none⟩ = (cA ct cv)[i]? := hr5.cell
 go_wp2_with fail
 refine (CV.out _).mono ?_; rintro e w6 ⟨rfl, b6⟩
 have hp6 := hp5.below b6 hp5.lt
 have hg6 := gb_belowP hg5 (b6.mono hg5.size)
 clear hp5 hg5 hr5 rc b6
 go_wp2_with fail
 go_ret
 exact ⟨rfl, hg6, hp6⟩
-- codeOf: of the sentinels, by their places
set_option maxRecDepth 20000 in
theorem codeOf_0 (r : Nat) (a0 a1 a2 a3 : Addr) (zs : List Value) (w : World) (he : Errs w a0 a1 a2 a3) (hr : CellsAt w r 122 (.iface 212 (.pointer (some a0)) :: zs).toArray) :
    Calls Tryz.prog 34 #[.iface 118 (.pointer (some ⟨r, 0, none⟩))] w fun e w' => e = .returned (.int .i64 1) ∧ w = w' := by
 obtain ⟨h0, ⟨g0, g1, g2, g3⟩, ⟨n01, n02, n03, n12, n13, n23⟩, ⟨c0, s0, r0⟩, ⟨c1, s1, r1⟩, ⟨c2, s2, r2⟩, ⟨c3, s3, r3⟩⟩ := he
 have hc : w.cell? ⟨r, 0, none⟩ = some (.iface 212 (.pointer (some a0))) := by rw [hr.cell 0]; simp
 have I1 := hid (is_other r a1 a0 c0 c1 s0 s1 w hc n01 r0 r1)
 have I2 := hid (is_other r a2 a0 c0 c2 s0 s2 w hc n02 r0 r2)
 have I3 := hid (is_other r a3 a0 c0 c3 s0 s3 w hc n03 r0 r3)
 clear hr hc h0 r0 r1 r2 r3 n01 n02 n03 n12 n13 n23
 go_enter Tryz.func34, Tryz.ntmps34
 go_wp2_with fail
 refine (I1.out).mono ?_; rintro e w' ⟨rfl, rfl⟩
 go_wp2_with fail
 refine (I2.out).mono ?_; rintro e w' ⟨rfl, rfl⟩
 go_wp2_with fail
 refine (I3.out).mono ?_; rintro e w' ⟨rfl, rfl⟩
 go_wp2_with fail
 go_ret
 exact ⟨rfl, rfl⟩
set_option maxRecDepth 20000 in
theorem codeOf_1 (r : Nat) (a0 a1 a2 a3 : Addr) (zs : List Value) (w : World) (he : Errs w a0 a1 a2 a3) (hr : CellsAt w r 122 (.iface 212 (.pointer (some a1)) :: zs).toArray) :
    Calls Tryz.prog 34 #[.iface 118 (.pointer (some ⟨r, 0, none⟩))] w fun e w' => e = .returned (.int .i64 2) ∧ w = w' := by
 obtain ⟨h0, ⟨g0, g1, g2, g3⟩, ⟨n01, n02, n03, n12, n13, n23⟩, ⟨c0, s0, r0⟩, ⟨c1, s1, r1⟩, ⟨c2, s2, r2⟩, ⟨c3, s3, r3⟩⟩ := he
 have hc : w.cell? ⟨r, 0, none⟩ = some (.iface 212 (.pointer (some a1))) := by rw [hr.cell 0]; simp
 have I1 := hid (is_same r a1 w hc)
 have I2 := hid (is_other r a2 a1 c1 c2 s1 s2 w hc n12 r1 r2)
 have I3 := hid (is_other r a3 a1 c1 c3 s1 s3 w hc n13 r1 r3)
 clear hr hc h0 r0 r1 r2 r3 n01 n02 n03 n12 n13 n23
 go_enter Tryz.func34, Tryz.ntmps34
 go_wp2_with fail
 refine (I1.out).mono ?_; rintro e w' ⟨rfl, rfl⟩
 go_wp2_with fail
 go_ret
 exact ⟨rfl, rfl⟩
set_option maxRecDepth 20000 in
theorem codeOf_2 (r : Nat) (a0 a1 a2 a3 : Addr) (zs : List Value) (w : World) (he : Errs w a0 a1 a2 a3) (hr : CellsAt w r 122 (.iface 212 (.pointer (some a2)) :: zs).toArray) :
    Calls Tryz.prog 34 #[.iface 118 (.pointer (some ⟨r, 0, none⟩))] w fun e w' => e = .returned (.int .i64 3) ∧ w = w' := by
 obtain ⟨h0, ⟨g0, g1, g2, g3⟩, ⟨n01, n02, n03, n12, n13, n23⟩, ⟨c0, s0, r0⟩, ⟨c1, s1, r1⟩, ⟨c2, s2, r2⟩, ⟨c3, s3, r3⟩⟩ := he
 have hc : w.cell? ⟨r, 0, none⟩ = some (.iface 212 (.pointer (some a2))) := by rw [hr.cell 0]; simp
 have I1 := hid (is_other r a1 a2 c2 c1 s2 s1 w hc n12.symm r2 r1)
 have I2 := hid (is_same r a2 w hc)
 have I3 := hid (is_other r a3 a2 c2 c3 s2 s3 w hc n23 r2 r3)
 clear hr hc h0 r0 r1 r2 r3 n01 n02 n03 n12 n13 n23
 go_enter Tryz.func34, Tryz.ntmps34
 go_wp2_with fail
 refine (I1.out).mono ?_; rintro e w' ⟨rfl, rfl⟩
 go_wp2_with fail
 refine (I2.out).mono ?_; rintro e w' ⟨rfl, rfl⟩
 go_wp2_with fail
 go_ret
 exact ⟨rfl, rfl⟩
set_option maxRecDepth 20000 in
theorem codeOf_3 (r : Nat) (a0 a1 a2 a3 : Addr) (zs : List Value) (w : World) (he : Errs w a0 a1 a2 a3) (hr : CellsAt w r 122 (.iface 212 (.pointer (some a3)) :: zs).toArray) :
    Calls Tryz.prog 34 #[.iface 118 (.pointer (some ⟨r, 0, none⟩))] w fun e w' => e = .returned (.int .i64 4) ∧ w = w' := by
 obtain ⟨h0, ⟨g0, g1, g2, g3⟩, ⟨n01, n02, n03, n12, n13, n23⟩, ⟨c0, s0, r0⟩, ⟨c1, s1, r1⟩, ⟨c2, s2, r2⟩, ⟨c3, s3, r3⟩⟩ := he
 have hc : w.cell? ⟨r, 0, none⟩ = some (.iface 212 (.pointer (some a3))) := by rw [hr.cell 0]; simp
 have I1 := hid (is_other r a1 a3 c3 c1 s3 s1 w hc n13.symm r3 r1)
 have I2 := hid (is_other r a2 a3 c3 c2 s3 s2 w hc n23.symm r3 r2)
 have I3 := hid (is_same r a3 w hc)
 clear hr hc h0 r0 r1 r2 r3 n01 n02 n03 n12 n13 n23
 go_enter Tryz.func34, Tryz.ntmps34
 go_wp2_with fail
 refine (I1.out).mono ?_; rintro e w' ⟨rfl, rfl⟩
 go_wp2_with fail
 refine (I2.out).mono ?_; rintro e w' ⟨rfl, rfl⟩
 go_wp2_with fail
 refine (I3.out).mono ?_; rintro e w' ⟨rfl, rfl⟩
 go_wp2_with fail
 go_ret
 exact ⟨rfl, rfl⟩
set_option maxRecDepth 20000 in
theorem leftBy_calls (r : Nat) (a : Addr) (t0 t1 t2 t3 t4 t5 t6 : Int) (t7 : Bool) (ct cv : Int) (w : World) (hg : w.cell? ⟨4, 0, none⟩ = some hErr) (hr : CellsAt w r 122 #[.iface 212 (.pointer (some a)), .int .i64 t0, .int .i64 t1, .int .i64 t2, .int .i64 t3, .int .i64 t4, .int .i64 t5, .int .i64 t6, .bool t7, .int .i64 ct, .int .i64 cv]) :
    Calls Tryz.prog 33 #[.iface 118 (.pointer (some ⟨r, 0, none⟩))] w fun e w' => e = .returned (.tuple #[.agg (tA t0 t1 t2 t3 t4 t5 t6 t7), .agg (cA ct cv)]) ∧ Below w.heap.size w w' := by
 have hlt := hr.lt
 have K0 := hid (show Kept w [(w.heap.size + 1 + 1, 118, #[.pointer none]), (w.heap.size + 1, 30, zC), (w.heap.size, 28, zT)] _ from ((((Kept.refl w).put1 _ _ zT rfl).put1 _ _ zC (by simp)).put1 _ _ #[.pointer none] (by simp)))
 have HA := hid (fun (u : World) (hb : Below w.heap.size w u) (hp : CellsAt u (w.heap.size + 1 + 1) 118 #[.pointer none]) => as_box ⟨r, 0, none⟩ (w.heap.size + 1 + 1) (.pointer none) u ((hb.cell (cell_lt hg)).trans hg) hp)
 have HR := hid (fun (u : World) (hb : Below w.heap.size w u) => hr.below hb hlt)
 clear hg hr
 go_enter Tryz.func33, Tryz.ntmps33
 go_upto_region 2 with fail
 have k0 := K0.out
 clear K0
 generalize World.alloc (World.alloc _ _) _ = w0 at k0 ⊢
 go_wp2_with fail
 refine (HA.out _ k0.1 (k0.at_ (by simp))).mono ?_; rintro e w1 ⟨rfl, hg1, hc1⟩
 have k1 := k0.put (k := 0) rfl (by unfold Apart; simp <;> omega) hg1 hc1
 clear k0 hg1 hc1 HA
 have k1' : Kept w [(w.heap.size + 1 + 1, 118, #[.pointer (some ⟨r, 0, none⟩)]), (w.heap.size + 1, 30, zC), (w.heap.size, 28, zT)] w1 := k1
 clear k1
 have hr1 := HR.out _ k1'.1
 have c1 : ∀ i, w1.cell? ⟨r, i, none⟩ = #[.iface 212 (.pointer (some a)), .int .i64 t0, .int .i64 t1, .int .i64 t2, .int .i64 t3, .int .i64 t4, .int .i64 t5, .int .i64 t6, .bool t7, .int .i64 ct, .int .i64 cv][i]? := hr1.cell
 obtain ⟨X0, Y0, X1, Y1, X2, Y2, -⟩ := k1'.rd
 go_upto_region 4 with fail
 have K4 := hid k1'
 clear k1' hr1 HR
 go_region
 all_goals
  go_wp2_with fail
  obtain ⟨w9, e9, ⟨d0, d1, d2, d3, d4, d5, d6, d7, d8, d9⟩, hb⟩ := touch_end (x0 := .int .i64 t0) (x1 := .int .i64 t1) (x2 := .int .i64 t2) (x3 := .int .i64 t3) (x4 := .int .i64 t4) (x5 := .int .i64 t5) (x6 := .int .i64 t6) (x7 := .bool t7) (y0 := .int .i64 ct) (y1 := .int .i64 cv) (K4.out.at_ (p := w.heap.size) (t := 28) (cs := zT) (by simp)) (K4.out.at_ (p := w.heap.size + 1) (t := 30) (cs := zC) (by simp)) (by omega) K4.out.1 (by omega) (by omega)
  rw [e9]
  clear e9
  exact bodyPost_ret (v := (.tuple #[.agg (tA t0 t1 t2 t3 t4 t5 t6 t7), .agg (cA ct cv)])) (by simp [results, Tryz.results33, go_sem, d0, d1, d2, d3, d4, d5, d6, d7, d8, d9]) rfl ⟨rfl, hb.drew⟩
end Go.Proofs.YteopplldbcgjjaaGreatDoor.Mx

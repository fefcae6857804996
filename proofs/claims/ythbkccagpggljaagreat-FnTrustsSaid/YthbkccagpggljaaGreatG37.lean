import Derived.Test.YthbkccagpggljaaGreatG23
import Derived.Test.YthbkccagpggljaaGreatG36
import Derived.Test.YthbkccagpggljaaGreatG05
import Derived.Test.YthbkccagpggljaaGreatG16
import Derived.Test.YthbkccagpggljaaGreatG02
import Derived.Test.YthbkccagpggljaaGreatG03
import Derived.Test.YthbkccagpggljaaGreatG01
import Derived.Test.YthbkccagpggljaaGreatG30
namespace Go.Proofs.YthbkccagpggljaaGreat.Mx
open Go.ChangeShapes Go.WideShapes Go.ChangeAt Go.RowKit
set_option linter.unusedVariables false
theorem put_kept (key a c s : Int) (p q : Nat) (rs : Array Value) (b w : World) (hk : isKey key) (ha : isAt a) (hc0 : 0 ≤ c) (hc1 : c ≤ 1000) (hq : q ≠ p) (hz : Kept b [(q, 75, rs), (p, 30, #[.int .i64 c, .int .i64 0, .int .i64 0, .int .i64 0, .int .i64 s, .int .i64 0, .int .i64 0, .bool false])] w) :
    Calls Tryz.prog 48 #[.pointer (some ⟨p, 0, none⟩), .pointer (some ⟨p, 4, none⟩), .int .i64 key, .int .i64 a, .int .i64 0] w fun e w' =>
      e = .returned (.agg #[.int .i64 (cellOf key a (c + 1) 0).1, .int .i64 (cellOf key a (c + 1) 0).2]) ∧
      Kept b [(q, 75, rs), (p, 30, #[.int .i64 (c + 1), .int .i64 0, .int .i64 0, .int .i64 0, .int .i64 (addOf s (tagIn key a (cellOf key a (c + 1) 0).1 (cellOf key a (c + 1) 0).2)), .int .i64 0, .int .i64 0, .bool false])] w' := by
  unfold isKey at hk
  unfold isAt at ha
  refine (put_calls key a c s 0 p 4 #[.int .i64 c, .int .i64 0, .int .i64 0, .int .i64 0, .int .i64 s, .int .i64 0, .int .i64 0, .bool false] w ⟨by omega, by omega⟩ ⟨by omega, by omega⟩ hc0 (by omega) ⟨by decide, by decide⟩ (hz.at_ (by simp)) rfl rfl (by decide)).mono ?_
  rintro e w' ⟨he, hg, hc⟩
  exact ⟨he, hz.put (k := 1) rfl (by unfold Apart; simp; omega) hg hc⟩
def roomArr (L : List Ce) : Array Value := (flatC L ++ List.replicate (16 - L.length * 2) (Value.int .i64 0)).toArray
theorem roomArr_new (key f : Int) : roomArr (cellsNew key f 0) = (#[.int .i64 0, .int .i64 0, .int .i64 0, .int .i64 0, .int .i64 0, .int .i64 0, .int .i64 0, .int .i64 0, .int .i64 0, .int .i64 0, .int .i64 0, .int .i64 0, .int .i64 0, .int .i64 0, .int .i64 0, .int .i64 0] : Array Value) := by unfold roomArr cellsNew; rw [List.range_zero, List.map_nil]; rfl
theorem roomArr_set (L : List Ce) (x y : Int) (h : L.length < 8) : ((roomArr L).setIfInBounds (L.length * 2) (.int .i64 x)).setIfInBounds (L.length * 2 + 1) (.int .i64 y) = roomArr (L ++ [(x, y)]) := by
  unfold roomArr
  obtain ⟨m, hm⟩ : ∃ m, 16 - L.length * 2 = m + 2 := ⟨14 - L.length * 2, by omega⟩
  have hm' : 16 - (L ++ [(x, y)]).length * 2 = m := by simp; omega
  rw [hm, hm', flatC_snoc]
  simp only [List.setIfInBounds_toArray]
  congr 1
  have hl := flatC_length L
  rw [List.set_append_right _ _ (by omega), List.set_append_right _ _ (by omega), hl, Nat.sub_self, show L.length * 2 + 1 - L.length * 2 = 1 by omega]
  simp [List.replicate_succ]
theorem roomArr_get (L : List Ce) (j : Nat) (h : j < L.length * 2) : (roomArr L)[j]? = (flatC L)[j]? := by
  unfold roomArr
  rw [List.getElem?_toArray, List.getElem?_append_left (by rw [flatC_length]; exact h)]
theorem sumNew_succ {key f : Int} (hk : isKey key) (n : Nat) : sumOf key (trisNew key f (n + 1)) = addOf (sumOf key (trisNew key f n)) (tagOf key (tripleIn (f + n) (cellOf key (f + n) (n + 1) 0).1 (cellOf key (f + n) (n + 1) 0).2).1 (tripleIn (f + n) (cellOf key (f + n) (n + 1) 0).1 (cellOf key (f + n) (n + 1) 0).2).2.1 (tripleIn (f + n) (cellOf key (f + n) (n + 1) 0).1 (cellOf key (f + n) (n + 1) 0).2).2.2) := by
  unfold sumOf
  rw [if_pos (show 1 ≤ key ∧ key ≤ 1000000 from hk), if_pos (show 1 ≤ key ∧ key ≤ 1000000 from hk), trisNew_succ, sumAll_snoc]
def LaidOutQ (key f : Int) (n : Nat) (b : World) (e : Ending) (w' : World) : Prop :=
  ∃ p q, q ≠ p ∧ e = .returned (.tuple #[.pointer (some ⟨p, 0, none⟩), .slice (some ⟨q, 0, none⟩) n 8]) ∧ Kept b [(q, 75, roomArr (cellsNew key f n)), (p, 30, #[.int .i64 n, .int .i64 0, .int .i64 0, .int .i64 0, .int .i64 (sumOf key (trisNew key f n)), .int .i64 0, .int .i64 0, .bool false])] w'
set_option maxRecDepth 20000 in
set_option maxHeartbeats 4000000 in
theorem laidOut_calls (key f : Int) (n : Nat) (w : World) (hk : isKey key) (hf0 : 0 ≤ f) (hf1 : f + n ≤ 24) (hn0 : 0 < n) (hn1 : n ≤ 8) :
    Calls Tryz.prog 23 #[.int .i64 key, .int .i64 f, .int .i64 n] w (LaidOutQ key f n w) := by
  have HK := Lib.hid hk
  have K0 := Lib.hid (show Kept w [(w.heap.size + 1, 75, roomArr (cellsNew key f 0)), (w.heap.size, 30, #[.int .i64 0, .int .i64 0, .int .i64 0, .int .i64 0, .int .i64 0, .int .i64 0, .int .i64 0, .bool false])] _ from ((Kept.refl w).put1 _ _ #[.int .i64 0, .int .i64 0, .int .i64 0, .int .i64 0, .int .i64 0, .int .i64 0, .int .i64 0, .bool false] rfl).put1 _ _ (roomArr (cellsNew key f 0)) (by simp))
  clear hk
  go_enter Tryz.func23, Tryz.ntmps23
  go_upto_region 3 with fail
  have hk0 := K0.out
  rw [roomArr_new] at hk0
  clear K0
  generalize World.alloc _ _ = w0 at hk0 ⊢
  have hle : (n : Int) ≤ 8 := by omega
  have hn00 : (0 : Int) ≤ n := by omega
  rw [← roomArr_new key f] at hk0
  have HK0 := Lib.hid hk0
  clear hk0
  go_wp2_with fail
  go_loopw [17] (fun i u => ∃ k : Nat, k ≤ n ∧ i = .int .i64 k ∧ Kept w [(w.heap.size + 1, 75, roomArr (cellsNew key f k)), (w.heap.size, 30, #[.int .i64 k, .int .i64 0, .int .i64 0, .int .i64 0, .int .i64 (sumOf key (trisNew key f k)), .int .i64 0, .int .i64 0, .bool false])] u) (fun i _ => n - (intOf i).toNat)
  case atStart => exact ⟨0, by omega, rfl, by have h := HK0.out; rw [show sumOf key (trisNew key f 0) = 0 by unfold sumOf; rw [if_pos (show 1 ≤ key ∧ key ≤ 1000000 from HK.out)]; rfl]; exact h⟩
  case round =>
    obtain ⟨k, hk, rfl, hkp⟩ := hrel
    have KP := Lib.hid hkp
    clear hkp
    by_cases hlt : k < n
    · have hlt' : (k : Int) < n := by omega
      have hfk : IntKind.i64.wrap (f + k) = f + k := IntWalk.i64_in _ (by omega)
      have PU := Lib.hid (fun u (h : Kept w [(w.heap.size + 1, 75, roomArr (cellsNew key f k)), (w.heap.size, 30, #[.int .i64 k, .int .i64 0, .int .i64 0, .int .i64 0, .int .i64 (sumOf key (trisNew key f k)), .int .i64 0, .int .i64 0, .bool false])] u) => put_kept key (f + k) k (sumOf key (trisNew key f k)) w.heap.size (w.heap.size + 1) (roomArr (cellsNew key f k)) w u HK.out ⟨by omega, by omega⟩ (by omega) (by omega) (by omega) h)
      have SN := Lib.hid (sumNew_succ (f := f) HK.out k)
      have CN := Lib.hid (cellsNew_succ key f k)
      have hl := cellsNew_length key f k
      have RS := Lib.hid (roomArr_set (cellsNew key f k) (cellOf key (f + k) (k + 1) 0).1 (cellOf key (f + k) (k + 1) 0).2 (by rw [hl]; omega))
      rw [hl] at RS
      clear hl
      rw [← CN.out] at RS
      have SN' := SN.out
      rw [show tagOf key (tripleIn (f + k) (cellOf key (f + k) (k + 1) 0).1 (cellOf key (f + k) (k + 1) 0).2).1 (tripleIn (f + k) (cellOf key (f + k) (k + 1) 0).1 (cellOf key (f + k) (k + 1) 0).2).2.1 (tripleIn (f + k) (cellOf key (f + k) (k + 1) 0).1 (cellOf key (f + k) (k + 1) 0).2).2.2 = tagIn key (f + k) (cellOf key (f + k) (k + 1) 0).1 (cellOf key (f + k) (k + 1) 0).2 from rfl] at SN'
      rw [← SN'] at PU
      clear SN'
      generalize (cellOf key (f + k) (k + 1) 0).1 = x1 at PU RS
      generalize (cellOf key (f + k) (k + 1) 0).2 = x2 at PU RS
      clear SN CN
      go_wp2_with fail
      refine (PU.out _ KP.out).mono ?_; rintro e w2 ⟨rfl, hk2⟩
      have HK2 := Lib.hid hk2
      have hcz := hk2.at_ (p := w.heap.size + 1) (t := 75) (cs := roomArr (cellsNew key f k)) (by simp)
      have hpr : ∀ j, j < 16 → ∃ z, w2.cell? ⟨w.heap.size + 1, j, none⟩ = some z := by
        intro j hj
        rw [hcz.cell j]
        have hsz : (roomArr (cellsNew key f k)).size = 16 := by unfold roomArr; simp [flatC_length, cellsNew_length]; omega
        exact ⟨_, Array.getElem?_eq_getElem (by omega)⟩
      obtain ⟨z0, e0⟩ := hpr (k * 2) (by omega)
      obtain ⟨z1, e1⟩ := hpr (k * 2 + 1) (by omega)
      have f0 : ∀ j, w2.frozen? ⟨w.heap.size + 1, j, none⟩ = false := hcz.frozen
      clear hk2 hcz hpr
      go_wp2_with fail
      go_roundw
      case rel =>
        have h := HK2.out.put (k := 0) rfl (by unfold Apart; simp) (gb_set (gb_set (gb_refl _ (some (w.heap.size + 1))) (k * 2) (.int .i64 x1)) (k * 2 + 1) (.int .i64 x2)) (((HK2.out.at_ (p := w.heap.size + 1) (t := 75) (cs := roomArr (cellsNew key f k)) (by simp)).set_ (k * 2) (.int .i64 x1)).set_ (k * 2 + 1) (.int .i64 x2))
        rw [RS.out] at h
        exact ⟨k + 1, by omega, by go_num, h⟩
      case measure => simp [intOf]; omega
    · obtain rfl : n = k := by omega
      go_wp2_with fail
      go_ret2
      exact ⟨w.heap.size, w.heap.size + 1, by omega, rfl, KP.out⟩
theorem cellsAt_news {u : World} {q : Nat} {t : TypeId} {L : List Ce} (h : CellsAt u q t (roomArr L)) : ∀ j v, (flatC L)[j]? = some v → u.cell? (Addr.add ⟨q, 0, none⟩ j) = some v := by
  intro j v hj
  have hl : j < L.length * 2 := by rw [← flatC_length]; exact (List.getElem?_eq_some_iff.1 hj).1
  have h1 := h.cell j
  rw [roomArr_get L j hl, hj] at h1
  rw [show Addr.add ⟨q, 0, none⟩ j = ⟨q, j, none⟩ by unfold Addr.add; split <;> simp_all]
  exact h1
theorem flatC_one (L : List Ce) : ∀ u ∈ flatC L, u.oneCell' = true := by
  intro u hu
  unfold flatC at hu
  obtain ⟨c, _, hc⟩ := List.mem_flatMap.1 hu
  simp at hc
  rcases hc with rfl | rfl <;> rfl
set_option maxRecDepth 20000 in
set_option maxHeartbeats 4000000 in
theorem copied_calls (q n : Nat) (L : List Ce) (w : World) (hn : n = L.length) (h0 : 0 < n) (h8 : n ≤ 8) (hq : CellsAt w q 75 (roomArr L)) :
    Calls Tryz.prog 24 #[.slice (some ⟨q, 0, none⟩) n 8] w fun e w' => ∃ v, e = .returned v ∧ CRow w' w.heap.size v L ∧ Below w.heap.size w w' := by
  have hmk := fun u => make_ce n (by omega) u
  have hw0 : CellsAt (w.alloc (.cells (madeCells (Value.agg #[.int .i64 0, .int .i64 0]).cells (n * 2)) 47)) w.heap.size 47 (madeCells (Value.agg #[.int .i64 0, .int .i64 0]).cells (n * 2)) := CellsAt.new w _ _
  have hb0 := box_below w (.cells (madeCells (Value.agg #[.int .i64 0, .int .i64 0]).cells (n * 2)) 47)
  have hsz : (madeCells (Value.agg #[.int .i64 0, .int .i64 0]).cells (n * 2)).size = n * 2 := size_madeCells _ _
  have H0 := Lib.hid (show CellsAt _ q 75 (roomArr L) from hq.below hb0 hq.lt)
  have lq := hq.lt
  have W0 := Lib.hid hw0
  have B0 := Lib.hid hb0
  have SZ := Lib.hid hsz
  have HN := Lib.hid hn
  clear hq hw0 hb0 hsz hn
  have hn00 : (0 : Int) ≤ n := by omega
  have hle : (n : Int) ≤ 8 := by omega
  generalize madeCells (Value.agg #[.int .i64 0, .int .i64 0]).cells (n * 2) = mc at hmk W0 B0 SZ H0
  go_enter Tryz.func24, Tryz.ntmps24
  go_upto_region 2 with fail
  have hw0 := W0.out
  have hb0 := B0.out
  have h0q := H0.out
  clear hmk W0 B0 H0
  generalize World.alloc _ _ = w1 at hw0 hb0 h0q ⊢
  have HS := Lib.hid (cellsAt_news h0q)
  have HL := Lib.hid (show (flatC L).length = Nat.min n n * 2 by rw [flatC_length, ← HN.out, show Nat.min n n = n from Nat.min_self n])
  have HF := Lib.hid (show 0 + (flatC L).length ≤ mc.size by rw [flatC_length, ← HN.out, SZ.out]; omega)
  have hrun := run_copy_rowS (P := Tryz.prog) w1 31 31 3 47 w.heap.size 0 n n ⟨q, 0, none⟩ n 8 mc 47 (flatC L) 2 Tryz.underlying31 (by rw [info_parts2.choose_spec.1]; exact congrArg some info_parts2.choose_spec.2.2.1) hw0 HL.out HS.out HF.out (flatC_one L)
  rw [show Nat.min n n = n from Nat.min_self n] at hrun
  have hg2 := Lib.hid (setRow_heap w1 w.heap.size mc (mc.toList.take 0 ++ flatC L ++ mc.toList.drop (0 + (flatC L).length)).toArray 47 _ hw0)
  have hgb2 : RowKit.Hid (w1.grownBy (w1.setRow w.heap.size (mc.toList.take 0 ++ flatC L ++ mc.toList.drop (0 + (flatC L).length)).toArray) (some w.heap.size)) := Lib.hid ⟨rfl, rfl, rfl, by simp [World.setRow], fun k _ hk => setRow_other w1 w.heap.size k _ (by intro e; exact hk (by rw [e]))⟩
  have HG := Lib.hid hw0
  have HB := Lib.hid hb0
  generalize World.setRow w1 _ _ = w2 at hrun hg2 hgb2
  clear hw0 hb0 h0q HS HL HF
  go_wp2_with fail
  go_ret
  refine ⟨_, rfl, crow_of_block hg2.out (Nat.le_refl _) ?_ HN.out (by unfold maxLen; omega), ?_⟩
  · have : mc.toList.drop (0 + (flatC L).length) = [] := by
      apply List.drop_eq_nil_of_le
      rw [Array.length_toList, SZ.out, flatC_length, ← HN.out]; omega
    rw [this]; simp
  · exact HB.out.trans (gr_below hgb2.out HB.out.size (fun k e => by injection e; omega))
theorem Kept.join {b u w : World} {L M : List Box} (h : Kept b L u) (k : Kept u M w) : Kept b (M ++ L) w := by
  refine ⟨(h.below k.1).1, fun x hx => ?_⟩
  rcases List.mem_append.1 hx with hx | hx
  · exact ⟨Nat.le_trans h.1.size (k.2 x hx).1, (k.2 x hx).2⟩
  · exact (h.below k.1).2 x hx
set_option maxRecDepth 20000 in
set_option maxHeartbeats 4000000 in
theorem newIc_no (key x : Int) (A : Option Addr) (l : List Int) (cap : Nat) (hcap : l.length ≤ cap) (w : World) (hn : l.length ≤ 1048576) (hA : Ints w .i64 w.heap.size A l) (h : firstOf key l x < 0) :
    Calls Tryz.prog 6 #[.agg #[.int .i64 key, .slice A l.length cap], .int .i64 x] w fun e w' => e = .returned (.tuple #[.agg #[.int .i64 0, .int .i64 0, .int .i64 0, .int .i64 0, .int .i64 0, .int .i64 0, .int .i64 0, .bool false], .slice none 0 0]) ∧ Below w.heap.size w w' := by
  have F := Lib.hid (fun (u : World) (hb : Below w.heap.size w u) => firstOf_calls key x A l cap u (by unfold maxLen; omega) hcap ((hA.below hb (Nat.le_refl _)).more hb.size))
  have K0 := Lib.hid (show Kept w [(w.heap.size + 1, 30, #[.int .i64 0, .int .i64 0, .int .i64 0, .int .i64 0, .int .i64 0, .int .i64 0, .int .i64 0, .bool false]), (w.heap.size, 26, #[.int .i64 key, .slice A l.length cap])] _ from (((Kept.refl w).put1 _ _ #[.int .i64 key, .slice A l.length cap] rfl).put1 _ _ #[.int .i64 0, .int .i64 0, .int .i64 0, .int .i64 0, .int .i64 0, .int .i64 0, .int .i64 0, .bool false] (by simp)))
  generalize firstOf key l x = f at F h
  clear hA hn
  go_enter Tryz.func6, Tryz.ntmps6
  go_wp2_with fail
  refine (F.out _ K0.out.1).mono ?_; rintro e w1 ⟨rfl, b1⟩
  have hk1 := K0.out.below b1
  obtain ⟨kc0, kf0, kc1, kf1, -⟩ := hk1.rd
  clear b1 F K0
  go_wp2_with fail
  obtain ⟨w9, e9, ⟨d0, d1, d2, d3, d4, d5, d6, d7⟩, -, hb9, -⟩ := trust_end (w := w) (x0 := .int .i64 0) (x1 := .int .i64 0) (x2 := .int .i64 0) (x3 := .int .i64 0) (x4 := .int .i64 0) (x5 := .int .i64 0) (x6 := .int .i64 0) (x7 := .bool false) (hk1.at_ (p := w.heap.size + 1) (t := 30) (cs := #[.int .i64 0, .int .i64 0, .int .i64 0, .int .i64 0, .int .i64 0, .int .i64 0, .int .i64 0, .bool false]) (by simp)) hk1.1 (by omega)
  rw [e9]
  exact bodyPost_ret (v := .tuple #[.agg #[.int .i64 0, .int .i64 0, .int .i64 0, .int .i64 0, .int .i64 0, .int .i64 0, .int .i64 0, .bool false], .slice none 0 0]) (by simp [results, Tryz.results6, go_sem, d0, d1, d2, d3, d4, d5, d6, d7]) rfl ⟨rfl, hb9⟩
set_option maxRecDepth 20000 in
set_option maxHeartbeats 8000000 in
theorem newIc_yes (key : Int) (A : Option Addr) (l : List Int) (cap : Nat) (hcap : l.length ≤ cap) (r : Nat) (w : World) (hn : l.length ≤ 1048576) (hA : Ints w .i64 w.heap.size A l) (hp : planOk key l) (hr : r < l.length) :
    Calls Tryz.prog 6 #[.agg #[.int .i64 key, .slice A l.length cap], .int .i64 r] w fun e w' => ∃ u, e = .returned (.tuple #[.agg #[.int .i64 (l.getD r 0), .int .i64 0, .int .i64 0, .int .i64 0, .int .i64 (sumOf key (trisNew key (upTo l r) (l.getD r 0).toNat)), .int .i64 0, .int .i64 0, .bool false], u]) ∧
      CRow w' w.heap.size u (cellsNew key (upTo l r) (l.getD r 0).toNat) ∧ Below w.heap.size w w' := by
  obtain ⟨bq, off, rfl, hbq, hcq⟩ := hA r hr
  have F0 := fun (u : World) (hb : Below w.heap.size w u) => firstOf_calls key r (some ⟨bq, off, none⟩) l cap u (by unfold maxLen; omega) hcap ((hA.below hb (Nat.le_refl _)).more hb.size)
  rw [firstOf_yes hp hr] at F0
  have K0 := Lib.hid (show Kept w [(w.heap.size + 1, 30, #[.int .i64 0, .int .i64 0, .int .i64 0, .int .i64 0, .int .i64 0, .int .i64 0, .int .i64 0, .bool false]), (w.heap.size, 26, #[.int .i64 key, .slice (some ⟨bq, off, none⟩) l.length cap])] _ from (((Kept.refl w).put1 _ _ #[.int .i64 key, .slice (some ⟨bq, off, none⟩) l.length cap] rfl).put1 _ _ #[.int .i64 0, .int .i64 0, .int .i64 0, .int .i64 0, .int .i64 0, .int .i64 0, .int .i64 0, .bool false] (by simp)))
  have HC := Lib.hid (fun (u : World) (hb : Below w.heap.size w u) => (hb.cell (p := ⟨bq, off + r, none⟩) hbq).trans hcq)
  have hv := hp.2.2.1 r hr
  have hu := upTo_bd hp.2.2.1 (show r ≤ l.length by omega)
  have hus := upTo_succ l hr
  have hup := upTo_mono hp.2.2.1 (i := r + 1) (j := l.length) (by omega) (Nat.le_refl _)
  have hu4 := hp.2.2.2
  have hl4 := hp.2.1.2
  have hkey := hp.1
  obtain ⟨n, hvn⟩ : ∃ n : Nat, l.getD r 0 = n := ⟨(l.getD r 0).toNat, by omega⟩
  rw [hvn] at HC hv hus ⊢
  rw [Int.toNat_natCast]
  obtain ⟨f, hff⟩ : ∃ f, f = upTo l r := ⟨_, rfl⟩
  rw [← hff] at F0 hu hus ⊢
  have F := Lib.hid F0
  have LQ := Lib.hid (fun u => laidOut_calls key f n u hkey (by omega) (by omega) (by omega) (by omega))
  have CQ := Lib.hid (fun q u (h : CellsAt u q 75 (roomArr (cellsNew key f n))) => copied_calls q n (cellsNew key f n) u (cellsNew_length key f n).symm (by omega) (by omega) h)
  have hi1 : (r : Int) < l.length := by omega
  have hi0 : (0 : Int) ≤ r := by omega
  have hf0 : ¬ f < 0 := by omega
  have hn1 : 0 < n := by omega
  have hn8 : n ≤ 8 := by omega
  clear hA hn hp hr hcq F0 hvn hff hv hu hus hup hu4 hl4 hkey
  go_enter Tryz.func6, Tryz.ntmps6
  go_wp2_with fail
  refine (F.out _ K0.out.1).mono ?_; rintro e w1 ⟨rfl, b1⟩
  have hk1 := K0.out.below b1
  have hcq := HC.out _ hk1.1
  obtain ⟨kc0, kf0, kc1, kf1, -⟩ := hk1.rd
  have HK1 := Lib.hid hk1
  clear b1 F K0 hk1 HC
  go_upto_region 4 with fail
  go_region_with (go_at_call 23; refine (LQ.out _).mono ?_; rintro e wx ⟨p, q, hqp, rfl, hkx⟩; have HKX := Lib.hid hkx; have HQP := Lib.hid hqp; clear hkx hqp)
  all_goals
    have hk2 := (show Kept w [(w.heap.size + 1, 30, #[.int .i64 0, .int .i64 0, .int .i64 0, .int .i64 0, .int .i64 0, .int .i64 0, .int .i64 0, .bool false]), (w.heap.size, 26, #[.int .i64 key, .slice (some ⟨bq, off, none⟩) l.length cap])] w1.drew from HK1.out.drew).join HKX.out
    have lr1 := hk2.lt (x := (w.heap.size + 1, 30, #[.int .i64 0, .int .i64 0, .int .i64 0, .int .i64 0, .int .i64 0, .int .i64 0, .int .i64 0, .bool false])) (by simp)
    have lp2 := hk2.lt (x := (p, 30, #[.int .i64 n, .int .i64 0, .int .i64 0, .int .i64 0, .int .i64 (sumOf key (trisNew key f n)), .int .i64 0, .int .i64 0, .bool false])) (by simp)
    have lq2 := hk2.lt (x := (q, 75, roomArr (cellsNew key f n))) (by simp)
    obtain ⟨kc0, kf0, kc1, kf1, kc2, kf2, kc3, kf3, -⟩ := hk2.rd
    have HK2 := Lib.hid hk2
    have HQ := Lib.hid HQP.out
    clear hk2 HKX HQP
    go_upto_region 5 with fail
    go_region_with (go_at_call 24; refine (CQ.out _ _ (HK2.out.drew.at_ (by simp))).mono ?_; rintro e wy ⟨v, rfl, hv, hb⟩; have HV := Lib.hid hv; have hk3 := HK2.out.drew.below hb; obtain ⟨mc0, mf0, mc1, mf1, mc2, mf2, mc3, mf3, -⟩ := hk3.rd; have HK3 := Lib.hid hk3; clear hv hk3 hb)
    all_goals
      go_wp2_with fail
      obtain ⟨w9, e9, ⟨d0, d1, d2, d3, d4, d5, d6, d7⟩, -, hb9, hg9⟩ := trust_end (w := w) (x0 := .int .i64 n) (x1 := .int .i64 0) (x2 := .int .i64 0) (x3 := .int .i64 0) (x4 := .int .i64 (sumOf key (trisNew key f n))) (x5 := .int .i64 0) (x6 := .int .i64 0) (x7 := .bool false) (HK3.out.at_ (p := w.heap.size + 1) (t := 30) (cs := #[.int .i64 0, .int .i64 0, .int .i64 0, .int .i64 0, .int .i64 0, .int .i64 0, .int .i64 0, .bool false]) (by simp)) HK3.out.1 (by omega)
      rw [e9]
      have R9 := (HV.out.grown hg9 lr1).mono (Nat.le_trans (Nat.le_succ _) (Nat.le_of_lt lr1))
      exact bodyPost_ret (v := .tuple #[.agg #[.int .i64 n, .int .i64 0, .int .i64 0, .int .i64 0, .int .i64 (sumOf key (trisNew key f n)), .int .i64 0, .int .i64 0, .bool false], v]) (by simp [results, Tryz.results6, go_sem, d0, d1, d2, d3, d4, d5, d6, d7]) rfl ⟨v, rfl, R9, hb9⟩
end Go.Proofs.YthbkccagpggljaaGreat.Mx
namespace Go.Proofs.YthbkccagpggljaaGreat.Mx
open Go.ChangeShapes Go.WideShapes Go.ChangeAt Go.RowKit
set_option linter.unusedVariables false
theorem ceGuard : Tryz.prog.eqGuardType Tryz.prog.depth 47 = false := by kernel_rfl
theorem truGuard : Tryz.prog.eqGuardType Tryz.prog.depth 30 = false := by kernel_rfl
set_option maxRecDepth 20000 in
set_option maxHeartbeats 2000000 in
theorem likeCells_same (A C : Option Addr) (L : List Ce) (cap cap' : Nat) (w : World) (hn : L.length ≤ 1048576) (hA : Ces w w.heap.size A L) (hC : Ces w w.heap.size C L) :
    Calls Tryz.prog 10 #[.slice A L.length cap, .slice C L.length cap'] w fun e w' => e = .returned (.bool true) ∧ Below w.heap.size w w' := by
  have HA := Lib.hid hA
  have HC := Lib.hid hC
  clear hA hC
  go_enter Tryz.func10, Tryz.ntmps10
  go_wp2_with fail
  go_loopw [5] (fun i wr => ∃ k : Nat, k ≤ L.length ∧ i = .int .i64 k ∧ Below w.heap.size w wr) (fun i _ => L.length - (intOf i).toNat)
  case atStart => exact ⟨0, Nat.zero_le _, rfl, Below.refl _ _⟩
  case round =>
    obtain ⟨k, hk, rfl, hbel⟩ := hrel
    by_cases hlt : k < L.length
    · obtain ⟨b, off, rfl, hb, hc0, hc1⟩ := (HA.out.below hbel (Nat.le_refl _)) k hlt
      obtain ⟨b', off', rfl, hb', hc0', hc1'⟩ := (HC.out.below hbel (Nat.le_refl _)) k hlt
      have HB := Lib.hid hbel
      generalize (L.getD k (0, 0)).1 = v0 at hc0 hc0'
      generalize (L.getD k (0, 0)).2 = v1 at hc1 hc1'
      have hlt' : (k : Int) < L.length := by omega
      have k0' : (0 : Int) ≤ k := by omega
      clear hbel hb hb' hk
      have hm := ceGuard
      go_upto_region 6 with fail
      go_region
      go_wp2_with fail
      go_roundw
      case rel => exact ⟨k + 1, by omega, by go_num, HB.out.drew⟩
      case measure => simp [intOf]; omega
    · have HB := Lib.hid hbel
      have hlt' : ¬ (k : Int) < L.length := by omega
      clear hbel
      go_wp2_with fail
      go_ret
      exact ⟨rfl, HB.out⟩
theorem likeV_same (u v : Value) (L : List Ce) (b b' : Nat) (w : World) (hn : L.length ≤ 1048576) (hu : CRow w b u L) (hv : CRow w b' v L) :
    Calls Tryz.prog 10 #[u, v] w fun e w' => e = .returned (.bool true) ∧ Below w.heap.size w w' := by
  obtain ⟨A, c, rfl, hA, -⟩ := hu.reads
  obtain ⟨C, d, rfl, hC, -⟩ := hv.reads
  exact likeCells_same A C L c d w hn hA hC
end Go.Proofs.YthbkccagpggljaaGreat.Mx
namespace Go.Proofs.YthbkccagpggljaaGreat.Mx
set_option linter.unusedVariables false
end Go.Proofs.YthbkccagpggljaaGreat.Mx
namespace Go.Proofs.YthbkccagpggljaaGreat.Mx
open Go.ChangeShapes Go.WideShapes Go.ChangeAt Go.RowKit
set_option linter.unusedVariables false
theorem big_no (A : Option Addr) (n cap : Nat) (w : World) (h : n ≤ 4096) :
    Calls Tryz.prog 4 #[.slice A n cap] w fun e w' => e = .returned (.bool false) ∧ w = w' := by
  have h' : ¬ (4096 : Int) < n := by omega
  go_enter Tryz.func4, Tryz.ntmps4
  go_wp2
  go_ret
  exact ⟨by simp, rfl⟩
theorem big_yes (A : Option Addr) (n cap : Nat) (w : World) (h : 4096 < n) :
    Calls Tryz.prog 4 #[.slice A n cap] w fun e w' => e = .returned (.bool true) ∧ w = w' := by
  have h' : (4096 : Int) < n := by omega
  go_enter Tryz.func4, Tryz.ntmps4
  go_wp2
  go_ret
  exact ⟨by simp, rfl⟩
end Go.Proofs.YthbkccagpggljaaGreat.Mx

import Derived.Test.YtjbnknccnhdapaaGreatG07
import Derived.RangeFuncBox
import Derived.RangeFuncLeaves
import Derived.Shelf.Abstract
import Derived.OwnWalkIn
import Derived.TacticsInMore
import Derived.LoopNIn
import Derived.LoopIn
import Derived.Maps.AppendAt
namespace Go.Proofs.YtjbnknccnhdapaaGreat.Mx
open Go.ChangeShapes Go.WideShapes Go.ChangeAt Go.RowKit
set_option linter.unusedVariables false
theorem isSealCount_calls (n : Int) (w : World) (hn : I64 n) :
    Calls Tryz.prog 66 #[.int .i64 n] w fun e w' => e = .returned (.bool (decide (0 ≤ n ∧ n ≤ 10000))) ∧ w = w' := by
 obtain ⟨m0, m1⟩ := hn
 by_cases h0 : 0 ≤ n
 ·by_cases h1 : n ≤ 10000
  ·rw [decide_eq_true ⟨h0, h1⟩]
   go_enter Tryz.func66, Tryz.ntmps66
   go_wp2
   go_ret
   exact ⟨rfl, rfl⟩
  ·rw [decide_eq_false (fun h => h1 h.2)]
   have h2 : 10000 < n := by omega
   go_enter Tryz.func66, Tryz.ntmps66
   go_wp2
   go_ret
   exact ⟨rfl, rfl⟩
 ·rw [decide_eq_false (fun h => h0 h.1)]
  have h2 : n < 0 := by omega
  go_enter Tryz.func66, Tryz.ntmps66
  go_wp2
  go_ret
  exact ⟨rfl, rfl⟩
theorem asNumber_calls (b : Bool) (w : World) : Calls Tryz.prog 105 #[.bool b] w fun e w' => e = .returned (.int .i64 (flagN b)) ∧ w = w' := by
 cases b
 all_goals
  go_enter Tryz.func105, Tryz.ntmps105
  go_wp2
  go_ret
  exact ⟨rfl, rfl⟩
set_option maxRecDepth 20000 in
set_option maxHeartbeats 4000000 in
theorem implTrusts_calls (key : Int) (A C : Option Addr) (l : List Int) (cap : Nat) (hcap : l.length ≤ cap) (L : List Tru) (cap2 : Nat) (w : World) (hn : l.length ≤ 1048576) (hA : Ints w .i64 w.heap.size A l) (hN : L.length ≤ maxLen) (hC : Trs w w.heap.size C L) :
    Calls Tryz.prog 67 #[.agg #[.int .i64 key, .slice A l.length cap], .slice C L.length cap2] w fun e w' => e = .returned (.bool (trustsB key l L)) ∧ Below w.heap.size w w' := by
 have K0 := Lib.hid (show Kept w [(w.heap.size, 26, #[.int .i64 key, .slice A l.length cap])] _ from (Kept.refl w).put1 _ _ #[.int .i64 key, .slice A l.length cap] rfl)
 have hm2 : l.length ≤ maxLen := by unfold maxLen; omega
 have PO := Lib.hid (fun (u : World) (hb : Below w.heap.size w u) => planOk_calls key A l cap u hm2 hcap ((hA.below hb (Nat.le_refl _)).more hb.size))
 have TO := Lib.hid (fun (t : Tru) (x : Int) (u : World) (hb : Below w.heap.size w u) => implTrustOk_calls key x A l cap t.clock t.epoch t.cursor t.read t.written t.nread t.nwritten t.failed u hn hcap ((hA.below hb (Nat.le_refl _)).more hb.size))
 have HC := Lib.hid hC
 have hm := hN
 unfold maxLen at hm hm2
 clear hA hC hN hcap
 by_cases hp : planOk key l
 ·rw [okB_yes hp] at PO
  by_cases hln : L.length = l.length
  ·have hbl : ((L.length : Int) == (l.length : Int)) = true := beq_iff_eq.2 (by omega)
   have hbn : ((L.length : Int) != (l.length : Int)) = false := by rw [bne, hbl]; rfl
   have HP := Lib.hid hp
   have HL := Lib.hid hln
   clear hp hln
   go_enter Tryz.func67, Tryz.ntmps67
   go_wp2_with fail
   refine (PO.out _ K0.out.1).mono ?_; rintro e w1 ⟨rfl, b1⟩
   have h1 := K0.out.below b1
   clear b1 K0
   obtain ⟨kc0, kf0, -⟩ := h1.rd
   have H1 := Lib.hid h1
   clear h1
   go_wp2_with fail
   clear kc0 kf0
   go_loopw [20] (fun i wr => ∃ k : Nat, k ≤ L.length ∧ i = .int .i64 k ∧ UpToOk key l L k ∧ Kept w [(w.heap.size, 26, #[.int .i64 key, .slice A l.length cap])] wr) (fun i _ => L.length - (intOf i).toNat)
   case atStart => exact ⟨0, Nat.zero_le _, rfl, fun i hi => absurd hi (by omega), H1.out⟩
   case round =>
    obtain ⟨k, hk, rfl, hup, hz⟩ := hrel
    have HU := Lib.hid hup
    clear hup
    by_cases hlt : k < L.length
    ·obtain ⟨b, off, rfl, hb, hc⟩ := HC.out.at_ hlt
     have hlt' : (k : Int) < L.length := by omega
     have hk0 : (0 : Int) ≤ k := by omega
     have TB := Lib.hid (TO.out (L.getD k default) k)
     obtain ⟨c0, c1, c2, c3, c4, c5, c6, c7⟩ := hc.below hz.1 hb
     by_cases hok : trustOk key l k (L.getD k default)
     ·have NX := Lib.hid (show UpToOk key l L (k + 1) from fun i hi => by
        rcases Nat.lt_or_ge i k with h | h
        ·exact HU.out i h
        ·obtain rfl : i = k := by omega
         exact hok)
      rw [show (⟨(L.getD k default).clock, (L.getD k default).epoch, (L.getD k default).cursor, (L.getD k default).read, (L.getD k default).written, (L.getD k default).nread, (L.getD k default).nwritten, (L.getD k default).failed⟩ : Tru) = L.getD k default from rfl, trustB_yes hok] at TB
      clear hok HU hc
      generalize L.getD k default = t at c0 c1 c2 c3 c4 c5 c6 c7 TB
      go_upto_region 6 with fail
      have hz2 := hz.put1 wr.heap.size 67 #[.int .i64 t.clock, .int .i64 t.epoch, .int .i64 t.cursor, .int .i64 t.read, .int .i64 t.written, .int .i64 t.nread, .int .i64 t.nwritten, .bool t.failed] rfl
      obtain ⟨kc0, kf0, kc1, kf1, -⟩ := hz2.rd
      have HZ := Lib.hid hz2
      clear hz hz2 c0 c1 c2 c3 c4 c5 c6 c7
      go_wp2_with fail
      refine (TB.out _ HZ.out.1).mono ?_; rintro e w2 ⟨rfl, b2⟩
      have hz3 := (HZ.out.below b2).sub (L' := [(w.heap.size, 26, #[.int .i64 key, .slice A l.length cap])]) (by intro y hy; simp at hy ⊢; right; exact hy)
      clear b2 kc0 kf0 kc1 kf1 HZ
      go_wp2_with fail
      go_roundw
      case rel => exact ⟨k + 1, by omega, by go_num, NX.out, hz3⟩
      case measure => simp [intOf]; omega
     ·rw [show (⟨(L.getD k default).clock, (L.getD k default).epoch, (L.getD k default).cursor, (L.getD k default).read, (L.getD k default).written, (L.getD k default).nread, (L.getD k default).nwritten, (L.getD k default).failed⟩ : Tru) = L.getD k default from rfl, trustB_no hok] at TB
      have HX := Lib.hid (trustsB_no (l := l) (L := L) (key := key) (fun h => hok (h.2.2 k hlt)))
      clear hok HU hc
      generalize L.getD k default = t at c0 c1 c2 c3 c4 c5 c6 c7 TB
      go_upto_region 6 with fail
      have hz2 := hz.put1 wr.heap.size 67 #[.int .i64 t.clock, .int .i64 t.epoch, .int .i64 t.cursor, .int .i64 t.read, .int .i64 t.written, .int .i64 t.nread, .int .i64 t.nwritten, .bool t.failed] rfl
      obtain ⟨kc0, kf0, kc1, kf1, -⟩ := hz2.rd
      have HZ := Lib.hid hz2
      clear hz hz2 c0 c1 c2 c3 c4 c5 c6 c7
      go_wp2_with fail
      refine (TB.out _ HZ.out.1).mono ?_; rintro e w2 ⟨rfl, b2⟩
      have hz3 := HZ.out.below b2
      clear b2 kc0 kf0 kc1 kf1 HZ
      go_wp2_with fail
      go_ret
      exact ⟨by rw [HX.out]; rfl, hz3.1⟩
    ·have hk' : k = L.length := by omega
     subst hk'
     have HX := Lib.hid (trustsB_yes (show trustsOk key l L from ⟨HP.out, HL.out, HU.out⟩))
     go_wp2_with fail
     go_ret
     exact ⟨by rw [HX.out]; rfl, hz.1⟩
  ·have hbl : ((L.length : Int) == (l.length : Int)) = false := beq_false_of_ne (by omega)
   have hbn : ((L.length : Int) != (l.length : Int)) = true := by rw [bne, hbl]; rfl
   have HX := Lib.hid (trustsB_no (show ¬ trustsOk key l L from fun h => hln h.2.1))
   clear hp hln
   go_enter Tryz.func67, Tryz.ntmps67
   go_wp2_with fail
   refine (PO.out _ K0.out.1).mono ?_; rintro e w1 ⟨rfl, b1⟩
   have h1 := K0.out.below b1
   clear b1 K0
   obtain ⟨kc0, kf0, -⟩ := h1.rd
   have H1 := Lib.hid h1
   clear h1
   go_wp2_with fail
   go_ret
   exact ⟨by rw [HX.out]; rfl, H1.out.1⟩
 ·rw [okB_no hp] at PO
  have HX := Lib.hid (trustsB_no (show ¬ trustsOk key l L from fun h => hp h.1))
  clear hp
  go_enter Tryz.func67, Tryz.ntmps67
  go_wp2_with fail
  refine (PO.out _ K0.out.1).mono ?_; rintro e w1 ⟨rfl, b1⟩
  have h1 := K0.out.below b1
  clear b1 K0
  have H1 := Lib.hid h1
  clear h1
  go_wp2_with fail
  go_ret
  exact ⟨by rw [HX.out]; rfl, H1.out.1⟩
theorem info_truP : ∃ i, Tryz.prog.info? 67 = some i ∧ i.zero = some (.agg #[.int .i64 0, .int .i64 0, .int .i64 0, .int .i64 0, .int .i64 0, .int .i64 0, .int .i64 0, .bool false]) ∧ i.size = 8 ∧ i.bytes = 64 := by
 obtain ⟨i, hi, hzz⟩ := Option.map_eq_some_iff.1 info_tru
 simp only [Prod.mk.injEq] at hzz
 exact ⟨i, hi, hzz.1, hzz.2.1, hzz.2.2⟩
theorem make_tr (n : Nat) (hn : n ≤ 1048576) (w : World) :
    (Instr.makeSlice 27 (.int .i64 (n : Int)) (.int .i64 (n : Int))).run Tryz.prog w = .ok (.slice (some ⟨w.heap.size, 0, none⟩) n n) (w.alloc (.cells (madeCells (Value.agg #[.int .i64 0, .int .i64 0, .int .i64 0, .int .i64 0, .int .i64 0, .int .i64 0, .int .i64 0, .bool false]).cells (n * 8)) 67)) := by
 obtain ⟨i, hi, hz, hs, hb⟩ := info_truP
 have hr := run_make (P := Tryz.prog) w 27 67 i _ Tryz.underlying27 hi hz .i64 .i64 n n (by omega) (Int.le_refl _) (by rw [hb]; omega) (by omega)
 rw [hs] at hr
 simpa using hr
theorem trow_of_block {w : World} {base g n : Nat} {cs : Array Value} {L : List Tru} (hg : w.heap[g]? = some (.cells cs 67 (0, 0))) (hb : base ≤ g) (hc : cs.toList = flatS truV L) (hn : n = L.length) (h8 : n ≤ maxLen) :
    TrRow w base (.slice (some ⟨g, 0, none⟩) n n) L := by
 subst hn
 refine ⟨?_, .inr ⟨g, L.length, cs, rfl, hb, hg, Nat.le_refl _, h8, ?_, ?_⟩⟩
 ·rw [flatS_length truV_len]
 ·rw [← Array.length_toList, hc, flatS_length truV_len]
 ·rw [hc, ← flatS_length truV_len, List.take_length]
set_option maxRecDepth 20000 in
set_option maxHeartbeats 4000000 in
theorem copiedT_calls (A : Option Addr) (L : List Tru) (cap : Nat) (w : World) (h0 : 0 < L.length) (h8 : L.length ≤ 1048576) (hA : Trs w w.heap.size A L) :
    Calls Tryz.prog 68 #[.slice A L.length cap] w (NewTr w L) := by
 obtain ⟨q, off, rfl, hq, _⟩ := hA 0 h0
 have hmk := fun u => make_tr L.length h8 u
 have hw0 : CellsAt (w.alloc (.cells (madeCells (Value.agg #[.int .i64 0, .int .i64 0, .int .i64 0, .int .i64 0, .int .i64 0, .int .i64 0, .int .i64 0, .bool false]).cells (L.length * 8)) 67)) w.heap.size 67 (madeCells (Value.agg #[.int .i64 0, .int .i64 0, .int .i64 0, .int .i64 0, .int .i64 0, .int .i64 0, .int .i64 0, .bool false]).cells (L.length * 8)) := CellsAt.new w _ _
 have hb0 := box_below w (.cells (madeCells (Value.agg #[.int .i64 0, .int .i64 0, .int .i64 0, .int .i64 0, .int .i64 0, .int .i64 0, .int .i64 0, .bool false]).cells (L.length * 8)) 67)
 have hsz : (madeCells (Value.agg #[.int .i64 0, .int .i64 0, .int .i64 0, .int .i64 0, .int .i64 0, .int .i64 0, .int .i64 0, .bool false]).cells (L.length * 8)).size = L.length * 8 := size_madeCells _ _
 have hnw : ∀ j v, (flatS truV L)[j]? = some v → (w.alloc (.cells (madeCells (Value.agg #[.int .i64 0, .int .i64 0, .int .i64 0, .int .i64 0, .int .i64 0, .int .i64 0, .int .i64 0, .bool false]).cells (L.length * 8)) 67)).cell? (Addr.add ⟨q, off, none⟩ j) = some v := by
  intro j v hv
  obtain ⟨ad, e, hc⟩ := (hA.below hb0 (Nat.le_refl _)).news truV_len (by omega) j v hv
  injection e with e
  rw [e]; exact hc
 have H0 := Lib.hid hnw
 have W0 := Lib.hid hw0
 have B0 := Lib.hid hb0
 have SZ := Lib.hid hsz
 have hl := flatS_length (L := L) truV_len
 have FL := Lib.hid hl
 have F1 := Lib.hid (truV_one L)
 clear hA hw0 hb0 hsz hnw hl
 unfold NewTr
 generalize madeCells (Value.agg #[.int .i64 0, .int .i64 0, .int .i64 0, .int .i64 0, .int .i64 0, .int .i64 0, .int .i64 0, .bool false]).cells (L.length * 8) = mc at hmk W0 B0 SZ H0
 have HL0 := Lib.hid h0
 have HL8 := Lib.hid h8
 have hn0 : (0 : Int) ≤ L.length := by omega
 have hle : (L.length : Int) ≤ 1048576 := by omega
 obtain ⟨n, hn⟩ : ∃ n, n = L.length := ⟨_, rfl⟩
 have HN := Lib.hid hn
 rw [← hn] at hmk hn0 hle ⊢
 clear hn h0 h8
 go_enter Tryz.func68, Tryz.ntmps68
 go_upto_region 2 with fail
 have hw0 := W0.out
 have hb0 := B0.out
 have h0q := H0.out
 clear hmk W0 B0 H0
 generalize World.alloc _ _ = w1 at hw0 hb0 h0q ⊢
 have HS := Lib.hid h0q
 have HLL := Lib.hid (show (flatS truV L).length = Nat.min n n * 8 by rw [FL.out, ← HN.out, show Nat.min n n = n from Nat.min_self n])
 have HF := Lib.hid (show 0 + (flatS truV L).length ≤ mc.size by rw [FL.out, SZ.out]; omega)
 have hrun := run_copy_rowS (P := Tryz.prog) w1 27 27 3 67 w.heap.size 0 n n ⟨q, off, none⟩ n cap mc 67 (flatS truV L) 8 Tryz.underlying27 (by rw [info_truP.choose_spec.1]; exact congrArg some info_truP.choose_spec.2.2.1) hw0 HLL.out HS.out HF.out F1.out
 rw [show Nat.min n n = n from Nat.min_self n] at hrun
 have hg2 := Lib.hid (setRow_heap w1 w.heap.size mc (mc.toList.take 0 ++ flatS truV L ++ mc.toList.drop (0 + (flatS truV L).length)).toArray 67 _ hw0)
 have hgb2 : RowKit.Hid (w1.grownBy (w1.setRow w.heap.size (mc.toList.take 0 ++ flatS truV L ++ mc.toList.drop (0 + (flatS truV L).length)).toArray) (some w.heap.size)) := Lib.hid ⟨rfl, rfl, rfl, by simp [World.setRow], fun k _ hk => setRow_other w1 w.heap.size k _ (by intro e; exact hk (by rw [e]))⟩
 have HG := Lib.hid hw0
 have HB := Lib.hid hb0
 generalize World.setRow w1 _ _ = w2 at hrun hg2 hgb2
 clear hw0 hb0 h0q HS HLL HF
 go_wp2_with fail
 go_ret
 refine ⟨_, rfl, trow_of_block hg2.out (Nat.le_refl _) ?_ HN.out (by have := HL8.out; have := HN.out; unfold maxLen; omega), ?_⟩
 ·have : mc.toList.drop (0 + (flatS truV L).length) = [] := by
    apply List.drop_eq_nil_of_le
    rw [Array.length_toList, SZ.out, FL.out]; omega
  rw [this]; simp
 ·exact HB.out.trans (gr_below hgb2.out HB.out.size (fun k e => by injection e; omega))
attribute [local go_sem] Oper.semAt_some
theorem run_index8 (cs : Array Value) (i : Nat) (v : Value) (hi : i < 8) (hc : cs[i]? = some v) (w : World) : (Instr.index 138 (.agg cs) (.int .i64 (i : Int))).run Tryz.prog w = .ok v w := by
 obtain ⟨j, hj, hzz⟩ := Option.map_eq_some_iff.1 info_i64
 simp only [Prod.mk.injEq] at hzz
 simp [Instr.index, asIntOf, run_underlying Tryz.underlying138, sizeOf, typeInfo, hj, hzz.2.1, hc, go_sem]
 intro h; omega
theorem fieldsOf_calls (C : Option Addr) (n c : Nat) (w : World) :
    Calls Tryz.prog 87 #[.slice C n c] w fun e w' => e = .returned (.func (.func 104) #[] #[.pointer (some ⟨w.heap.size, 0, none⟩)]) ∧ w' = w.alloc (.cells #[.slice C n c] 27) := by
 go_enter Tryz.func87, Tryz.ntmps87
 go_wp2_with fail
 go_ret
 exact ⟨rfl, rfl⟩
theorem take8 (xs : List Int) (t : Tru) {j : Nat} {x : Int} (h : (macRow t)[j]? = some x) : xs ++ (macRow t).take (j + 1) = xs ++ (macRow t).take j ++ [x] := by
 rw [List.append_assoc]
 congr 1
 rw [List.take_add_one, h]; rfl
theorem prefix8 (L : List Tru) {k j : Nat} (hk : k < L.length) : (L.take k).flatMap macRow ++ (macRow (L.getD k default)).take j <+: L.flatMap macRow := by
 have h := takeT_succ hk
 refine List.IsPrefix.trans (l₂ := (L.take (k + 1)).flatMap macRow) ?_ ?_
 ·rw [h]; exact List.prefix_append_right_inj _ |>.2 (List.take_prefix _ _)
 ·conv => rhs; rw [← List.take_append_drop (k + 1) L]
  rw [List.flatMap_append]; exact List.prefix_append _ _
theorem len8 (L : List Tru) {k j : Nat} (hk : k < L.length) (hj : j < 8) (t : Tru) : ((L.take k).flatMap macRow ++ (macRow t).take j).length < L.length * 8 := by
 rw [List.length_append, macRow_len, List.length_take, List.length_take, Nat.min_eq_left (by omega)]
 show _ + min j 8 < _
 omega
set_option maxRecDepth 100000 in
set_option maxHeartbeats 4000000 in
theorem fields_in (n : Nat) (hn : 1 ≤ n) (l Bn n₀ : Nat) (C : Option Addr) (L : List Tru) (cap2 : Nat) (hN : L.length ≤ 1048576) (J Jx : List Int → World → Prop)
    (hJ : ∀ s W W', J s W → W.grownBy W' none → J s W')
    (hY : ∀ pre x W, J pre W → pre.length < L.length * 8 → YieldAt Fence.wide (n - 1) Tryz.prog l #[.int .i64 x] W fun e W' =>
     (e = .returned (.bool true) ∧ J (pre ++ [x]) W' ∧ Below n₀ W W') ∨ (e = .returned (.bool false) ∧ Jx (pre ++ [x]) W'))
    (W : World) (hn₀ : n₀ ≤ W.heap.size) (hBn : W.cell? ⟨Bn, 0, none⟩ = some (.slice C L.length cap2)) (hL : Trs W n₀ C L) (h0 : J [] W) :
    CallsIn Fence.wide n Tryz.prog 104 #[.func (.yield l) #[] #[], .pointer (some ⟨Bn, 0, none⟩)] W fun e W' => (∃ v, e = .returned v) ∧
     ((∃ ys, ys = L.flatMap macRow ∧ J ys W') ∨ (∃ pre, pre <+: L.flatMap macRow ∧ Jx pre W')) := by
 have HL := Lib.hid hL
 have HY := Lib.hid hY
 have HJ := Lib.hid hJ
 clear hL hY hJ
 refine callsIn_of_wp Tryz.func104 rfl trivial ?_ rfl
 simp only [Tryz.ntmps104, List.size_toArray, List.length_cons, List.length_nil, Nat.reduceAdd, Nat.reduceSub, Array.replicate_succ, Array.replicate_zero, List.push_toArray, List.append_toArray, List.nil_append, List.cons_append]
 gi_wp2
 gi_loopw [10] (fun i wr => ∃ k : Nat, k ≤ L.length ∧ i = .int .i64 k ∧ J ((L.take k).flatMap macRow) wr ∧ Below n₀ W wr) (fun i _ => L.length - (intOf i).toNat)
 case atStart => exact ⟨0, Nat.zero_le _, rfl, h0, Below.refl _ _⟩
 case round =>
  obtain ⟨k, hk, rfl, hJs, hnx⟩ := hrel
  by_cases hlt : k < L.length
  ·obtain ⟨b, off, rfl, hb, hc⟩ := HL.out.at_ hlt
   have hlt' : (k : Int) < L.length := by omega
   have hk0 : (0 : Int) ≤ k := by omega
   obtain ⟨c0, c1, c2, c3, c4, c5, c6, c7⟩ := hc.below hnx hb
   generalize hT : L.getD k default = t at c0 c1 c2 c3 c4 c5 c6 c7
   gi_wp2
   have hz2 : Kept wr [(wr.heap.size, 67, #[.int .i64 t.clock, .int .i64 t.epoch, .int .i64 t.cursor, .int .i64 t.read, .int .i64 t.written, .int .i64 t.nread, .int .i64 t.nwritten, .bool t.failed])] (wr.alloc (.cells #[.int .i64 t.clock, .int .i64 t.epoch, .int .i64 t.cursor, .int .i64 t.read, .int .i64 t.written, .int .i64 t.nread, .int .i64 t.nwritten, .bool t.failed] 67)) := (Kept.refl wr).put1 _ _ #[.int .i64 t.clock, .int .i64 t.epoch, .int .i64 t.cursor, .int .i64 t.read, .int .i64 t.written, .int .i64 t.nread, .int .i64 t.nwritten, .bool t.failed] rfl
   clear c0 c1 c2 c3 c4 c5 c6 c7
   generalize World.alloc _ _ = w1 at hz2 ⊢
   refine wpIn_wide.2 ?_
   refine wp_region_free [false, false, false, false, false, false, false, false, false, false, false, false, false, false, false, false, true, false, true, true] (ShM [(16, .int .i64 (flagN t.failed))] [18]) (fun D γ u => MadeC w1 (w1.heap.size) [] [] [(18, 19, 138, #[.int .i64 t.clock, .int .i64 t.epoch, .int .i64 t.cursor, .int .i64 t.read, .int .i64 t.written, .int .i64 t.nread, .int .i64 t.nwritten, .int .i64 (flagN t.failed)])] D γ u) (by kernel_rfl) (by kernel_rfl) (fun γ => by kernel_rfl) (fun D γ γ' w ha h => h.loc ha) (ShM.inh _ _) (fun γ => MadeC.start (ResC.start (Kept.refl _) (fun x hx => by cases hx)) (Nat.le_refl _) (Nat.le_refl _) (fun x hx => by cases hx) (fun x hx => by cases hx)) (fun γ hγ => ?_)
   have g16 : γ 16 = .int .i64 (flagN t.failed) := hγ 16 rfl
   have g19 : γ 19 = undef := hγ 19 rfl
   obtain ⟨bq, g18⟩ : ∃ g : Nat, γ 18 = .pointer (some ⟨g, 0, none⟩) := hγ 18 rfl
   apply Exists.intro
   refine ⟨fun D => ?_, ?_, ?_⟩
   ·simp only [hushL, cond_true, cond_false, Nat.reduceAdd, g16, g19, g18]
    iterate 20 (first
     | go_big_quiet_skip
     | (go_big_quiet_want
        go_big_quiet_op
        first
         | go_big_quiet_on
         | (apply Exists.intro
            refine ⟨fun u hu => ?_, ?_⟩
            ·first
               | with_reducible rfl
               | (have hk9 := hz2.below hu.1.1.1; obtain ⟨kc0, kf0, -⟩ := hk9.rd; go_simp; first | done | with_reducible rfl)
            go_big_quiet_on)))
    exact wpQuiet_nil rfl
   ·simp only [freeOk, Nat.reduceAdd]
    refine ⟨fun D u hD hd hu => ?_, fun D u hD hd hu => ?_, fun D u hD hd hu => ?_, trivial⟩
    ·have hb := hu.1.1.1
     exact steps_call ((((asNumber_calls t.failed u).mono fun e w' h => (⟨h.1, h.2 ▸ Below.refl _ _⟩ : _ ∧ Below u.heap.size u w'))).mono fun e w' ⟨he, hb⟩ => ⟨_, he, rfl, hu.below hb 16 _ (by simp)⟩) rfl rfl rfl rfl (by kernel_rfl)
    ·exact steps_alloc (cs := #[.int .i64 0, .int .i64 0, .int .i64 0, .int .i64 0, .int .i64 0, .int .i64 0, .int .i64 0, .int .i64 0]) rfl (by kernel_rfl) ⟨⟨_, rfl⟩, hu.made (j := 19) (t := 138) (V := #[.int .i64 t.clock, .int .i64 t.epoch, .int .i64 t.cursor, .int .i64 t.read, .int .i64 t.written, .int .i64 t.nread, .int .i64 t.nwritten, .int .i64 (flagN t.failed)]) (by simp) (by simp) (by simp) hD (by decide) rfl⟩
    ·have dk := hd { on := 18, ground := Ground.data } (by simp) rfl rfl
     obtain ⟨g0, e1, z, hz, hzs⟩ := hu.box (k := 18) (j := 19) (t := 138) (V := #[.int .i64 t.clock, .int .i64 t.epoch, .int .i64 t.cursor, .int .i64 t.read, .int .i64 t.written, .int .i64 t.nread, .int .i64 t.nwritten, .int .i64 (flagN t.failed)]) (by simp) dk
     obtain rfl : bq = g0 := by rw [g18] at e1; simpa using e1
     exact steps_store hz rfl rfl rfl (by kernel_rfl) hzs (by simp [Value.oneCell']) (fun w' hc hg => ⟨rfl, hu.filled (k := 18) (t := 138) (V := #[.int .i64 t.clock, .int .i64 t.epoch, .int .i64 t.cursor, .int .i64 t.read, .int .i64 t.written, .int .i64 t.nread, .int .i64 t.nwritten, .int .i64 (flagN t.failed)]) (by simp) dk (by simp) (by simp) (by decide) e1 hg hc _⟩)
   ·intro D uf hD hu
    have hb3 := hu.1.1.1
    have hf := hz2.below hb3
    obtain ⟨g0, e1, hge18, hgc18⟩ := hu.doneM (k := 18) (j := 19) (t := 138) (V := #[.int .i64 t.clock, .int .i64 t.epoch, .int .i64 t.cursor, .int .i64 t.read, .int .i64 t.written, .int .i64 t.nread, .int .i64 t.nwritten, .int .i64 (flagN t.failed)]) (by simp) (hD 18 (by simp) rfl) (hD 19 (by simp) rfl)
    obtain rfl : bq = g0 := by rw [g18] at e1; simpa using e1
    clear e1
    have hfz1 := hf.more (Nat.le_trans hz2.1.size hge18) hgc18
    clear hu hD
    obtain ⟨kc0, kf0, kc1, kf1, -⟩ := hfz1.rd
    have JK := Lib.hid (HJ.out _ _ _ hJs (below_gb hfz1.1 none))
    have NK := Lib.hid (hnx.trans (hfz1.1.mono (Nat.le_trans hn₀ hnx.size)))
    clear hJs hnx hz2
    gi_wp2
    clear kc0 kf0 kc1 kf1 hf hfz1 hb3
    have HX := Lib.hid (fun j => prefix8 (j := j) L hlt)
    have HTS := Lib.hid (takeT_succ hlt)
    rw [hT] at HX HTS
    gi_loopw [33] (fun i wz => ∃ j : Nat, j ≤ 8 ∧ i = .int .i64 j ∧ J ((L.take k).flatMap macRow ++ (macRow t).take j) wz ∧ Below n₀ W wz) (fun i _ => 8 - (intOf i).toNat)
    case atStart => exact ⟨0, Nat.zero_le _, rfl, by simpa using JK.out, NK.out⟩
    case round =>
     obtain ⟨j, hj, rfl, hJz, hnz⟩ := hrel
     by_cases hj8 : j < 8
     ·have e8 : j = 0 ∨ j = 1 ∨ j = 2 ∨ j = 3 ∨ j = 4 ∨ j = 5 ∨ j = 6 ∨ j = 7 := by omega
      obtain ⟨x, hx⟩ : ∃ x, (macRow t)[j]? = some x := ⟨_, List.getElem?_eq_getElem (show j < (macRow t).length from hj8)⟩
      obtain ⟨fn, tmps, assign, body, hy, hR⟩ := HY.out _ x wr hJz (len8 L hlt hj8 t)
      have HT8 := Lib.hid (take8 ((L.take k).flatMap macRow) t hx)
      rcases e8 with rfl | rfl | rfl | rfl | rfl | rfl | rfl | rfl
      ·obtain rfl := Option.some.inj hx
       have hix : (Instr.index 138 (.agg #[.int .i64 t.clock, .int .i64 t.epoch, .int .i64 t.cursor, .int .i64 t.read, .int .i64 t.written, .int .i64 t.nread, .int .i64 t.nwritten, .int .i64 (flagN t.failed)]) (.int .i64 0)).run Tryz.prog wr = .ok (.int .i64 t.clock) wr := run_index8 #[.int .i64 t.clock, .int .i64 t.epoch, .int .i64 t.cursor, .int .i64 t.read, .int .i64 t.written, .int .i64 t.nread, .int .i64 t.nwritten, .int .i64 (flagN t.failed)] 0 _ (by omega) rfl wr
       clear hJz
       gi_wp2
       refine hR.mono ?_
       rintro e W3 (⟨rfl, hJ3, hk3⟩ | ⟨rfl, hJx3⟩)
       ·gi_wp2
        go_roundw
        case rel => exact ⟨1, by omega, rfl, by rw [HT8.out]; exact hJ3, hnz.trans hk3⟩
        case measure => simp [intOf]
       ·gi_wp2
        refine bodyPost_ret (results_none rfl _ _ _) rfl ?_
        exact ⟨⟨_, rfl⟩, .inr ⟨_, by have h := HX.out 1; rw [HT8.out] at h; exact h, hJx3⟩⟩
      ·obtain rfl := Option.some.inj hx
       have hix : (Instr.index 138 (.agg #[.int .i64 t.clock, .int .i64 t.epoch, .int .i64 t.cursor, .int .i64 t.read, .int .i64 t.written, .int .i64 t.nread, .int .i64 t.nwritten, .int .i64 (flagN t.failed)]) (.int .i64 1)).run Tryz.prog wr = .ok (.int .i64 t.epoch) wr := run_index8 #[.int .i64 t.clock, .int .i64 t.epoch, .int .i64 t.cursor, .int .i64 t.read, .int .i64 t.written, .int .i64 t.nread, .int .i64 t.nwritten, .int .i64 (flagN t.failed)] 1 _ (by omega) rfl wr
       clear hJz
       gi_wp2
       refine hR.mono ?_
       rintro e W3 (⟨rfl, hJ3, hk3⟩ | ⟨rfl, hJx3⟩)
       ·gi_wp2
        go_roundw
        case rel => exact ⟨2, by omega, rfl, by rw [HT8.out]; exact hJ3, hnz.trans hk3⟩
        case measure => simp [intOf]
       ·gi_wp2
        refine bodyPost_ret (results_none rfl _ _ _) rfl ?_
        exact ⟨⟨_, rfl⟩, .inr ⟨_, by have h := HX.out 2; rw [HT8.out] at h; exact h, hJx3⟩⟩
      ·obtain rfl := Option.some.inj hx
       have hix : (Instr.index 138 (.agg #[.int .i64 t.clock, .int .i64 t.epoch, .int .i64 t.cursor, .int .i64 t.read, .int .i64 t.written, .int .i64 t.nread, .int .i64 t.nwritten, .int .i64 (flagN t.failed)]) (.int .i64 2)).run Tryz.prog wr = .ok (.int .i64 t.cursor) wr := run_index8 #[.int .i64 t.clock, .int .i64 t.epoch, .int .i64 t.cursor, .int .i64 t.read, .int .i64 t.written, .int .i64 t.nread, .int .i64 t.nwritten, .int .i64 (flagN t.failed)] 2 _ (by omega) rfl wr
       clear hJz
       gi_wp2
       refine hR.mono ?_
       rintro e W3 (⟨rfl, hJ3, hk3⟩ | ⟨rfl, hJx3⟩)
       ·gi_wp2
        go_roundw
        case rel => exact ⟨3, by omega, rfl, by rw [HT8.out]; exact hJ3, hnz.trans hk3⟩
        case measure => simp [intOf]
       ·gi_wp2
        refine bodyPost_ret (results_none rfl _ _ _) rfl ?_
        exact ⟨⟨_, rfl⟩, .inr ⟨_, by have h := HX.out 3; rw [HT8.out] at h; exact h, hJx3⟩⟩
      ·obtain rfl := Option.some.inj hx
       have hix : (Instr.index 138 (.agg #[.int .i64 t.clock, .int .i64 t.epoch, .int .i64 t.cursor, .int .i64 t.read, .int .i64 t.written, .int .i64 t.nread, .int .i64 t.nwritten, .int .i64 (flagN t.failed)]) (.int .i64 3)).run Tryz.prog wr = .ok (.int .i64 t.read) wr := run_index8 #[.int .i64 t.clock, .int .i64 t.epoch, .int .i64 t.cursor, .int .i64 t.read, .int .i64 t.written, .int .i64 t.nread, .int .i64 t.nwritten, .int .i64 (flagN t.failed)] 3 _ (by omega) rfl wr
       clear hJz
       gi_wp2
       refine hR.mono ?_
       rintro e W3 (⟨rfl, hJ3, hk3⟩ | ⟨rfl, hJx3⟩)
       ·gi_wp2
        go_roundw
        case rel => exact ⟨4, by omega, rfl, by rw [HT8.out]; exact hJ3, hnz.trans hk3⟩
        case measure => simp [intOf]
       ·gi_wp2
        refine bodyPost_ret (results_none rfl _ _ _) rfl ?_
        exact ⟨⟨_, rfl⟩, .inr ⟨_, by have h := HX.out 4; rw [HT8.out] at h; exact h, hJx3⟩⟩
      ·obtain rfl := Option.some.inj hx
       have hix : (Instr.index 138 (.agg #[.int .i64 t.clock, .int .i64 t.epoch, .int .i64 t.cursor, .int .i64 t.read, .int .i64 t.written, .int .i64 t.nread, .int .i64 t.nwritten, .int .i64 (flagN t.failed)]) (.int .i64 4)).run Tryz.prog wr = .ok (.int .i64 t.written) wr := run_index8 #[.int .i64 t.clock, .int .i64 t.epoch, .int .i64 t.cursor, .int .i64 t.read, .int .i64 t.written, .int .i64 t.nread, .int .i64 t.nwritten, .int .i64 (flagN t.failed)] 4 _ (by omega) rfl wr
       clear hJz
       gi_wp2
       refine hR.mono ?_
       rintro e W3 (⟨rfl, hJ3, hk3⟩ | ⟨rfl, hJx3⟩)
       ·gi_wp2
        go_roundw
        case rel => exact ⟨5, by omega, rfl, by rw [HT8.out]; exact hJ3, hnz.trans hk3⟩
        case measure => simp [intOf]
       ·gi_wp2
        refine bodyPost_ret (results_none rfl _ _ _) rfl ?_
        exact ⟨⟨_, rfl⟩, .inr ⟨_, by have h := HX.out 5; rw [HT8.out] at h; exact h, hJx3⟩⟩
      ·obtain rfl := Option.some.inj hx
       have hix : (Instr.index 138 (.agg #[.int .i64 t.clock, .int .i64 t.epoch, .int .i64 t.cursor, .int .i64 t.read, .int .i64 t.written, .int .i64 t.nread, .int .i64 t.nwritten, .int .i64 (flagN t.failed)]) (.int .i64 5)).run Tryz.prog wr = .ok (.int .i64 t.nread) wr := run_index8 #[.int .i64 t.clock, .int .i64 t.epoch, .int .i64 t.cursor, .int .i64 t.read, .int .i64 t.written, .int .i64 t.nread, .int .i64 t.nwritten, .int .i64 (flagN t.failed)] 5 _ (by omega) rfl wr
       clear hJz
       gi_wp2
       refine hR.mono ?_
       rintro e W3 (⟨rfl, hJ3, hk3⟩ | ⟨rfl, hJx3⟩)
       ·gi_wp2
        go_roundw
        case rel => exact ⟨6, by omega, rfl, by rw [HT8.out]; exact hJ3, hnz.trans hk3⟩
        case measure => simp [intOf]
       ·gi_wp2
        refine bodyPost_ret (results_none rfl _ _ _) rfl ?_
        exact ⟨⟨_, rfl⟩, .inr ⟨_, by have h := HX.out 6; rw [HT8.out] at h; exact h, hJx3⟩⟩
      ·obtain rfl := Option.some.inj hx
       have hix : (Instr.index 138 (.agg #[.int .i64 t.clock, .int .i64 t.epoch, .int .i64 t.cursor, .int .i64 t.read, .int .i64 t.written, .int .i64 t.nread, .int .i64 t.nwritten, .int .i64 (flagN t.failed)]) (.int .i64 6)).run Tryz.prog wr = .ok (.int .i64 t.nwritten) wr := run_index8 #[.int .i64 t.clock, .int .i64 t.epoch, .int .i64 t.cursor, .int .i64 t.read, .int .i64 t.written, .int .i64 t.nread, .int .i64 t.nwritten, .int .i64 (flagN t.failed)] 6 _ (by omega) rfl wr
       clear hJz
       gi_wp2
       refine hR.mono ?_
       rintro e W3 (⟨rfl, hJ3, hk3⟩ | ⟨rfl, hJx3⟩)
       ·gi_wp2
        go_roundw
        case rel => exact ⟨7, by omega, rfl, by rw [HT8.out]; exact hJ3, hnz.trans hk3⟩
        case measure => simp [intOf]
       ·gi_wp2
        refine bodyPost_ret (results_none rfl _ _ _) rfl ?_
        exact ⟨⟨_, rfl⟩, .inr ⟨_, by have h := HX.out 7; rw [HT8.out] at h; exact h, hJx3⟩⟩
      ·obtain rfl := Option.some.inj hx
       have hix : (Instr.index 138 (.agg #[.int .i64 t.clock, .int .i64 t.epoch, .int .i64 t.cursor, .int .i64 t.read, .int .i64 t.written, .int .i64 t.nread, .int .i64 t.nwritten, .int .i64 (flagN t.failed)]) (.int .i64 7)).run Tryz.prog wr = .ok (.int .i64 (flagN t.failed)) wr := run_index8 #[.int .i64 t.clock, .int .i64 t.epoch, .int .i64 t.cursor, .int .i64 t.read, .int .i64 t.written, .int .i64 t.nread, .int .i64 t.nwritten, .int .i64 (flagN t.failed)] 7 _ (by omega) rfl wr
       clear hJz
       gi_wp2
       refine hR.mono ?_
       rintro e W3 (⟨rfl, hJ3, hk3⟩ | ⟨rfl, hJx3⟩)
       ·gi_wp2
        go_roundw
        case rel => exact ⟨8, by omega, rfl, by rw [HT8.out]; exact hJ3, hnz.trans hk3⟩
        case measure => simp [intOf]
       ·gi_wp2
        refine bodyPost_ret (results_none rfl _ _ _) rfl ?_
        exact ⟨⟨_, rfl⟩, .inr ⟨_, by have h := HX.out 8; rw [HT8.out] at h; exact h, hJx3⟩⟩
     ·obtain rfl : j = 8 := by omega
      have hJ8 : J ((L.take (k + 1)).flatMap macRow) wr := by rw [HTS.out]; exact hJz
      clear hJz
      gi_wp2
      go_roundw
      case rel => exact ⟨k + 1, by omega, by go_num, hJ8, hnz⟩
      case measure => simp [intOf]; omega
  ·obtain rfl : k = L.length := by omega
   gi_wp2
   go_end0
   exact ⟨⟨_, rfl⟩, .inl ⟨_, rfl, by simpa using hJs⟩⟩
attribute [local go_sem] Oper.semAt_some
theorem ownFrom_kept {β : Type} {B : Nat} {b : World} {L : List Box} (hB : b.heap.size ≤ B) : OwnFrom B (fun (_ : β) W => Kept b L W) := by
 intro s W W' row hs hg hr
 refine ⟨hs.1.grown hg hs.1.size (fun k e => Nat.le_trans hB (hr k e).1), fun x hx => ⟨(hs.2 x hx).1, ?_⟩⟩
 refine (hs.2 x hx).2.grown hg ?_
 intro e
 obtain ⟨_, o, ho, hc⟩ := hr x.1 e.symm
 rw [(hs.2 x hx).2] at ho
 cases ho; cases hc
theorem Kept.upto {b W W' : World} {L : List Box} {n : Nat} (h : Kept b L W) (hb : Below n W W') (h1 : b.heap.size ≤ n) (h2 : ∀ x ∈ L, x.1 < n) : Kept b L W' :=
 ⟨h.1.trans (hb.mono h1), fun x hx => ⟨(h.2 x hx).1, (hb.block x.1 (h2 x hx)).trans (h.2 x hx).2⟩⟩
theorem flat_i64 {L : List Tru} (h : TrusI L) : I64s (L.flatMap macRow) := by
 induction L with
 | nil => exact I64s.nil
 | cons t L ih =>
   rw [List.flatMap_cons]
   exact I64s.append (macRow_i64 (h 0 (by simp))) (ih (fun i hi => by have := h (i + 1) (by simpa using hi); simpa using this))
theorem fields_stops (n : Nat) (hn : 1 ≤ n) (Bn n₀ : Nat) (C : Option Addr) (L : List Tru) (cap2 : Nat) (hN : L.length ≤ 1048576) (w : World) (hBn : Bn < w.heap.size) (hn₀ : n₀ ≤ w.heap.size)
    (hc : w.cell? ⟨Bn, 0, none⟩ = some (.slice C L.length cap2)) (hL : Trs w n₀ C L) :
    SeqStopsK Fence.wide n Tryz.prog 104 #[.pointer (some ⟨Bn, 0, none⟩)] (fun x : Int => #[Value.int .i64 x]) (Below n₀) (fun ys => ys = L.flatMap macRow) (fun pre => pre <+: L.flatMap macRow) (L.length * 8) w := fun l J Jx W hW hJ _ hY h0 =>
 fields_in n hn l Bn n₀ C L cap2 hN J Jx (fun s X Y hs hg => hJ s X Y none hs hg (fun r e => by cases e)) hY W (Nat.le_trans hn₀ hW.size) ((hW.cell (p := ⟨Bn, 0, none⟩) hBn).trans hc) (hL.below (hW.mono hn₀) (Nat.le_refl _)) h0
set_option maxRecDepth 100000 in
set_option maxHeartbeats 4000000 in
theorem implMac_calls (key count : Int) (A C : Option Addr) (l : List Int) (cap : Nat) (hcap : l.length ≤ cap) (L : List Tru) (cap2 : Nat) (w : World) (hn : l.length ≤ 1048576) (hA : Ints w .i64 w.heap.size A l) (hN : L.length ≤ 1048576) (hC : Trs w w.heap.size C L) (hI : TrusI L) (hc0 : I64 count) :
    Calls Tryz.prog 69 #[.agg #[.int .i64 key, .slice A l.length cap], .int .i64 count, .slice C L.length cap2] w fun e w' => e = .returned (.int .i64 (macOf key l count L)) ∧ Below w.heap.size w w' := by
 have K0 := Lib.hid (show Kept w [(w.heap.size, 26, #[.int .i64 key, .slice A l.length cap])] _ from (Kept.refl w).put1 _ _ #[.int .i64 key, .slice A l.length cap] rfl)
 have hm2 : l.length ≤ maxLen := by unfold maxLen; omega
 have PO := Lib.hid (fun (u : World) (hb : Below w.heap.size w u) => planOk_calls key A l cap u hm2 hcap ((hA.below hb (Nat.le_refl _)).more hb.size))
 have HC := Lib.hid hC
 have HI := Lib.hid hI
 unfold macOf
 clear hA hC hn hI hcap hm2
 by_cases hp : planOk key l
 ·rw [if_pos hp]
  rw [okB_yes hp] at PO
  clear hp
  refine (callsIn_wide (n := 8)).1 ?_
  refine callsIn_of_wp_marks Tryz.func69 rfl trivial ?_ rfl
  simp only [Tryz.ntmps69, List.size_toArray, List.length_cons, List.length_nil, Nat.reduceAdd, Nat.reduceSub, Array.replicate_succ, Array.replicate_zero, List.push_toArray, List.append_toArray, List.nil_append, List.cons_append]
  gi_wp2_with fail
  refine ⟨trivial, callsIn_wide.2 ((PO.out _ K0.out.1).mono ?_)⟩; rintro e w1 ⟨rfl, b1⟩
  have h1 := K0.out.below b1
  have hs1 : w.heap.size + 1 ≤ w1.heap.size := h1.lt (x := (w.heap.size, 26, #[.int .i64 key, .slice A l.length cap])) (by simp)
  have RW := Lib.hid (Row.lit w1 (w.heap.size + 1) [3, count, (L.length : Int)] hs1 (by simp [maxLen]) (I64s.cons (by omega) (by omega) (I64s.cons hc0.1 hc0.2 (I64s.cons (by omega) (by omega) I64s.nil))))
  clear b1 K0
  have H1 := Lib.hid h1
  clear h1
  gi_wp2_with fail
  have hrow := RW.out
  have hkp := H1.out.below ((Below.refl _ _).alloc (Nat.le_refl _) (.cells #[.int .i64 3, .int .i64 count, .int .i64 (L.length : Int)] 2))
  clear RW H1
  refine ⟨trivial, callsIn_wide.2 ((fieldsOf_calls C L.length cap2 _).mono ?_)⟩; rintro e w' ⟨rfl, rfl⟩
  gi_wp2_with fail
  obtain ⟨i0, hi, hzz⟩ := Option.map_eq_some_iff.1 info_i64
  simp only [Prod.mk.injEq] at hzz
  obtain ⟨hz0, hz1, hz2⟩ := hzz
  have hrow1 : (w1.alloc (.cells #[.int .i64 3, .int .i64 count, .int .i64 (L.length : Int)] 2)).ownsRow (w.heap.size + 1) 2 1 (.slice (some ⟨w1.heap.size, 0, none⟩) 3 3) 3 (([3, count, (L.length : Int)] ++ []).map (Value.int .i64)) := hrow.1
  have bO := Boxed.new (w1.alloc (.cells #[.int .i64 3, .int .i64 count, .int .i64 (L.length : Int)] 2)) 24 (.slice (some ⟨w1.heap.size, 0, none⟩) 3 3)
  rw [World.size_alloc] at bO
  have bN := Boxed.new ((w1.alloc (.cells #[.int .i64 3, .int .i64 count, .int .i64 (L.length : Int)] 2)).alloc (.cells #[.slice (some ⟨w1.heap.size, 0, none⟩) 3 3] 24)) 27 (.slice C L.length cap2)
  rw [World.size_alloc, World.size_alloc] at bN
  have hrow0 := (hrow1.alloc (.cells #[.slice (some ⟨w1.heap.size, 0, none⟩) 3 3] 24)).alloc (.cells #[.slice C L.length cap2] 27)
  have hk0 := (hkp.below ((Below.refl _ _).alloc (Nat.le_refl _) (.cells #[.slice (some ⟨w1.heap.size, 0, none⟩) 3 3] 24))).below ((Below.refl _ _).alloc (Nat.le_refl _) (.cells #[.slice C L.length cap2] 27))
  have bO' := bO.alloc (.cells #[.slice C L.length cap2] 27)
  have hsz : (((w1.alloc (.cells #[.int .i64 3, .int .i64 count, .int .i64 (L.length : Int)] 2)).alloc (.cells #[.slice (some ⟨w1.heap.size, 0, none⟩) 3 3] 24)).alloc (.cells #[.slice C L.length cap2] 27)).heap.size = w1.heap.size + 3 := by simp
  have IL := Lib.hid hrow.2
  clear hrow hrow1 hkp bO
  generalize World.alloc _ _ = W0 at hrow0 hk0 bN bO' hsz ⊢
  have HCW := HC.out.below hk0.1 (Nat.le_refl _)
  refine wpIn_rangeFunc_ownF (gf := 104) (lb := #[.pointer (some ⟨w1.heap.size + 1 + 1, 0, none⟩)]) rfl (by omega) rfl trivial (enters_of Tryz.func104 (by kernel_rfl) rfl)
   (fields_stops 7 (by omega) (w1.heap.size + 1 + 1) w.heap.size C L cap2 hN W0 (by omega) (by omega) bN.cell HCW) belowK_t (belowK_b (by omega)) (Below.refl _ _) (fun _ => rfl)
   (fun pre W => (∃ v, Boxed W (w1.heap.size + 1) 24 v ∧ W.ownsRow (w.heap.size + 1) 2 1 v ([3, count, (L.length : Int)] ++ pre).length (([3, count, (L.length : Int)] ++ pre).map (Value.int .i64)) ∧ True) ∧ Kept w [(w.heap.size, 26, #[.int .i64 key, .slice A l.length cap])] W)
   (fun _ _ _ => False)
   (OwnFrom.and (Own.from (holdsRow_own (w.heap.size + 1) (w1.heap.size + 1) 24 2 1 (fun pre => ([3, count, (L.length : Int)] ++ pre).length) (fun pre => ([3, count, (L.length : Int)] ++ pre).map (Value.int .i64)) (fun pre v => True)) _) (ownFrom_kept (by omega)))
   (fun _ _ _ _ _ hs _ _ => hs)
   ⟨⟨_, bO', hrow0, trivial⟩, hk0⟩
   (fun x => { tmps := #[.agg #[.int .i64 key, .slice A l.length cap], .int .i64 count, .slice C L.length cap2, .pointer (some ⟨w.heap.size, 0, none⟩), undef, undef, .int .i64 0, .pointer (some ⟨w1.heap.size + 1, 0, none⟩), .int .i64 x, .agg #[.int .i64 key, .slice A l.length cap], .bool true, .bool false, .int .i64 count, .slice C L.length cap2, .int .i64 (L.length : Int), .slice (some ⟨w1.heap.size, 0, none⟩) 3 3, .slice C L.length cap2, .func (.func 104) #[] #[.pointer (some ⟨w1.heap.size + 1 + 1, 0, none⟩)], .int .i64 x, undef, undef, undef, undef, undef, undef, undef, undef], defers := [] }) ?assign ?body ?done ?stop
  case assign =>
   intro l x W K hK
   gi_wp2
   exact hK
  case body =>
   rintro l' pre x W ⟨⟨v, hv, hrow, -⟩, hkw⟩ hlt
   have hc := hv.cell
   have hln : ([3, count, (L.length : Int)] ++ pre).length ≤ 3 + pre.length := by rw [List.length_append]; exact Nat.le_refl _
   have hws : w.heap.size + 1 ≤ W.heap.size := hkw.lt (x := (w.heap.size, 26, #[.int .i64 key, .slice A l.length cap])) (by simp)
   have HS := Lib.hid (show ([3, count, (L.length : Int)] ++ (pre ++ [x])).map (Value.int .i64) = ([3, count, (L.length : Int)] ++ pre).map (Value.int .i64) ++ [.int .i64 x] from by rw [← List.append_assoc, List.map_append]; rfl)
   have HN2 := Lib.hid (show ([3, count, (L.length : Int)] ++ (pre ++ [x])).length = ([3, count, (L.length : Int)] ++ pre).length + 1 from by rw [← List.append_assoc, List.length_append]; rfl)
   generalize ([3, count, (L.length : Int)] ++ pre).map (Value.int .i64) = zs at hrow HS
   generalize ([3, count, (L.length : Int)] ++ pre).length = zl at hrow HN2 hln
   gi_wp2_with (gi_at_builtin; refine wpListIn_append_own _ rfl _ _ 24 rfl (w.heap.size + 1) 2 i0 (.int .i64 0) 1 8 Tryz.underlying24 hi hz0 hz1 hz2 rfl (by decide) _ _ _ rfl (hrow.alloc _) ⟨W.heap.size, 0, none⟩ 1 1 [.int .i64 x] rfl rfl (cell_one_new _ _ _) (by simp [Value.oneCell']) (by unfold maxLen; omega) (by omega) (by simp; omega) ?_; intro v' w2 hown' hgrow _; obtain ⟨g', cap', rfl⟩ := ownsRow_succ hown'; obtain ⟨hv1, hv2, hr2, hk2, hb2⟩ := hv.appended (by decide) hrow hws (by omega) hown' hgrow; have hc1 := hv1.cell; have hf1 := hv1.frozen)
   refine ⟨hk2, hb2.mono (by omega), ⟨_, hv2, by rw [HS.out, HN2.out]; exact hr2, trivial⟩, hkw.upto hb2 (by omega) (by intro y hy; simp at hy; subst hy; simp)⟩
  case done =>
   rintro D ys W hD rfl ⟨⟨v, hv, hrow, -⟩, hkw⟩ hK
   have hc := hv.cell
   obtain ⟨kc0, kf0, -⟩ := hkw.rd
   have hlen : ([3, count, (L.length : Int)] ++ L.flatMap macRow).length ≤ 3 + L.length * 8 := by rw [List.length_append, macRow_len]; exact Nat.le_refl _
   have hrr : Row W (w.heap.size + 1) 2 v ([3, count, (L.length : Int)] ++ L.flatMap macRow) := ⟨hrow, I64s.append IL.out (fun i hi => flat_i64 HI.out i hi)⟩
   obtain ⟨B, c, rfl, hI2⟩ := hrr.reads
   have MX := Lib.hid (fun u hu => mixed_calls key B ([3, count, (L.length : Int)] ++ L.flatMap macRow) c W.heap.size u (by unfold maxLen; omega) hu hrr.2)
   rw [show mixOf key ([3, count, (L.length : Int)] ++ L.flatMap macRow) = mixOf key (macList count L) from rfl] at MX
   have HIN := Lib.hid hI2
   have HKW := Lib.hid hkw.1
   obtain ⟨mx, hmx⟩ : ∃ m, m = mixOf key (macList count L) := ⟨_, rfl⟩
   rw [← hmx] at MX
   have HMX := Lib.hid hmx
   clear hmx
   generalize ([3, count, (L.length : Int)] ++ L.flatMap macRow).length = zl at MX hc
   clear hrr hrow hI2 hkw hv hlen
   gi_wp2_with fail
   refine ⟨trivial, callsIn_wide.2 ((MX.out _ HIN.out).mono ?_)⟩; rintro e w' ⟨rfl, rfl⟩
   gi_wp2_with fail
   refine ⟨by simp, .inl ⟨_, _, rfl, run_takeDeferred hK, ?_⟩⟩
   exact ⟨_, results_tmp rfl _ _ _, by rw [← HMX.out]; rfl, HKW.out.trans (belowK_b (w := w) (Nat.le_refl _) W D _ _ (by omega) hK rfl rfl)⟩
  case stop =>
   rintro D c pre W _ _ h _
   exact h.elim
 ·rw [if_neg hp]
  rw [okB_no hp] at PO
  clear hp
  go_enter Tryz.func69, Tryz.ntmps69
  go_wp2_with fail
  refine (PO.out _ K0.out.1).mono ?_; rintro e w1 ⟨rfl, b1⟩
  have h1 := K0.out.below b1
  clear b1 K0
  have H1 := Lib.hid h1
  clear h1
  go_wp2_with fail
  go_ret
  exact ⟨rfl, H1.out.1⟩
end Go.Proofs.YtjbnknccnhdapaaGreat.Mx

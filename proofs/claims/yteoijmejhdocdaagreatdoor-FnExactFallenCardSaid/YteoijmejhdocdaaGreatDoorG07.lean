import Derived.Test.YteoijmejhdocdaaGreatDoorG06
import Derived.Test.YteoijmejhdocdaaGreatDoorG03
import Derived.Test.YteoijmejhdocdaaGreatDoorG05
namespace Go.Proofs.YteoijmejhdocdaaGreatDoor.Mx
open Go.ChangeShapes Go.WideShapes Go.ChangeAt Go.RowKit
set_option linter.unusedVariables false
theorem isSealCount_calls (n : Int) (w : World) (hn : I64 n) :
    Calls Tryz.prog 78 #[.int .i64 n] w fun e w' => e = .returned (.bool (decide (0 ≤ n ∧ n ≤ 10000))) ∧ w = w' := by
  obtain ⟨m0, m1⟩ := hn
  by_cases h0 : 0 ≤ n
  · by_cases h1 : n ≤ 10000
    · rw [decide_eq_true ⟨h0, h1⟩]
      go_enter Tryz.func78, Tryz.ntmps78
      go_wp2
      go_ret
      exact ⟨rfl, rfl⟩
    · rw [decide_eq_false (fun h => h1 h.2)]
      have h2 : 10000 < n := by omega
      go_enter Tryz.func78, Tryz.ntmps78
      go_wp2
      go_ret
      exact ⟨rfl, rfl⟩
  · rw [decide_eq_false (fun h => h0 h.1)]
    have h2 : n < 0 := by omega
    go_enter Tryz.func78, Tryz.ntmps78
    go_wp2
    go_ret
    exact ⟨rfl, rfl⟩
theorem asNumber_calls (b : Bool) (w : World) : Calls Tryz.prog 239 #[.bool b] w fun e w' => e = .returned (.int .i64 (flagN b)) ∧ w = w' := by
  cases b
  all_goals
    go_enter Tryz.func239, Tryz.ntmps239
    go_wp2
    go_ret
    exact ⟨rfl, rfl⟩
set_option maxRecDepth 20000 in
set_option maxHeartbeats 4000000 in
theorem implTrusts_calls (key : Int) (A C : Option Addr) (l : List Int) (cap : Nat) (hcap : l.length ≤ cap) (L : List Tru) (cap2 : Nat) (w : World) (hn : l.length ≤ 1048576) (hA : Ints w .i64 w.heap.size A l) (hN : L.length ≤ maxLen) (hC : Trs w w.heap.size C L) :
    Calls Tryz.prog 75 #[.agg #[.int .i64 key, .slice A l.length cap], .slice C L.length cap2] w fun e w' => e = .returned (.bool (trustsB key l L)) ∧ Below w.heap.size w w' := by
  have K0 := Lib.hid (show Kept w [(w.heap.size, 26, #[.int .i64 key, .slice A l.length cap])] _ from (Kept.refl w).put1 _ _ #[.int .i64 key, .slice A l.length cap] rfl)
  have hm2 : l.length ≤ maxLen := by unfold maxLen; omega
  have PO := Lib.hid (fun (u : World) (hb : Below w.heap.size w u) => planOk_calls key A l cap u hm2 hcap ((hA.below hb (Nat.le_refl _)).more hb.size))
  have TO := Lib.hid (fun (t : Tru) (x : Int) (u : World) (hb : Below w.heap.size w u) => implTrustOk_calls key x A l cap t.clock t.epoch t.cursor t.read t.written t.nread t.nwritten t.failed u hn hcap ((hA.below hb (Nat.le_refl _)).more hb.size))
  have HC := Lib.hid hC
  have hm := hN
  unfold maxLen at hm hm2
  clear hA hC hN hcap
  by_cases hp : planOk key l
  · rw [okB_yes hp] at PO
    by_cases hln : L.length = l.length
    · have hbl : ((L.length : Int) == (l.length : Int)) = true := beq_iff_eq.2 (by omega)
      have hbn : ((L.length : Int) != (l.length : Int)) = false := by rw [bne, hbl]; rfl
      have HP := Lib.hid hp
      have HL := Lib.hid hln
      clear hp hln
      go_enter Tryz.func75, Tryz.ntmps75
      go_wp2_with fail
      refine (PO.out _ K0.out.1).mono ?_; rintro e w1 ⟨rfl, b1⟩
      have h1 := K0.out.below b1
      clear b1 K0
      obtain ⟨kc0, kf0, -⟩ := h1.rd
      have H1 := Lib.hid h1
      clear h1
      go_wp2_with fail
      clear kc0 kf0
      go_loopw [20] (fun i wr => ∃ k : Nat, k ≤ L.length ∧ i = .int .i64 k ∧ UpToOk key l L k ∧ Kept w [(w.heap.size, 26, #[.int .i64 key, .slice A l.length cap])] wr) (fun i _ => L.length - (intOf i).toNat)
      case atStart => exact ⟨0, Nat.zero_le _, rfl, fun i hi => absurd hi (by omega), H1.out⟩
      case round =>
        obtain ⟨k, hk, rfl, hup, hz⟩ := hrel
        have HU := Lib.hid hup
        clear hup
        by_cases hlt : k < L.length
        · obtain ⟨b, off, rfl, hb, hc⟩ := HC.out.at_ hlt
          have hlt' : (k : Int) < L.length := by omega
          have hk0 : (0 : Int) ≤ k := by omega
          have TB := Lib.hid (TO.out (L.getD k default) k)
          obtain ⟨c0, c1, c2, c3, c4, c5, c6, c7⟩ := hc.below hz.1 hb
          by_cases hok : trustOk key l k (L.getD k default)
          · have NX := Lib.hid (show UpToOk key l L (k + 1) from fun i hi => by
              rcases Nat.lt_or_ge i k with h | h
              · exact HU.out i h
              · obtain rfl : i = k := by omega
                exact hok)
            rw [show (⟨(L.getD k default).clock, (L.getD k default).epoch, (L.getD k default).cursor, (L.getD k default).read, (L.getD k default).written, (L.getD k default).nread, (L.getD k default).nwritten, (L.getD k default).failed⟩ : Tru) = L.getD k default from rfl, trustB_yes hok] at TB
            clear hok HU hc
            generalize L.getD k default = t at c0 c1 c2 c3 c4 c5 c6 c7 TB
            go_upto_region 6 with fail
            have hz2 := hz.put1 wr.heap.size 94 #[.int .i64 t.clock, .int .i64 t.epoch, .int .i64 t.cursor, .int .i64 t.read, .int .i64 t.written, .int .i64 t.nread, .int .i64 t.nwritten, .bool t.failed] rfl
            obtain ⟨kc0, kf0, kc1, kf1, -⟩ := hz2.rd
            have HZ := Lib.hid hz2
            clear hz hz2 c0 c1 c2 c3 c4 c5 c6 c7
            go_wp2_with fail
            refine (TB.out _ HZ.out.1).mono ?_; rintro e w2 ⟨rfl, b2⟩
            have hz3 := (HZ.out.below b2).sub (L' := [(w.heap.size, 26, #[.int .i64 key, .slice A l.length cap])]) (by intro y hy; simp at hy ⊢; right; exact hy)
            clear b2 kc0 kf0 kc1 kf1 HZ
            go_wp2_with fail
            go_roundw
            case rel => exact ⟨k + 1, by omega, by go_num, NX.out, hz3⟩
            case measure => simp [intOf]; omega
          · rw [show (⟨(L.getD k default).clock, (L.getD k default).epoch, (L.getD k default).cursor, (L.getD k default).read, (L.getD k default).written, (L.getD k default).nread, (L.getD k default).nwritten, (L.getD k default).failed⟩ : Tru) = L.getD k default from rfl, trustB_no hok] at TB
            have HX := Lib.hid (trustsB_no (l := l) (L := L) (key := key) (fun h => hok (h.2.2 k hlt)))
            clear hok HU hc
            generalize L.getD k default = t at c0 c1 c2 c3 c4 c5 c6 c7 TB
            go_upto_region 6 with fail
            have hz2 := hz.put1 wr.heap.size 94 #[.int .i64 t.clock, .int .i64 t.epoch, .int .i64 t.cursor, .int .i64 t.read, .int .i64 t.written, .int .i64 t.nread, .int .i64 t.nwritten, .bool t.failed] rfl
            obtain ⟨kc0, kf0, kc1, kf1, -⟩ := hz2.rd
            have HZ := Lib.hid hz2
            clear hz hz2 c0 c1 c2 c3 c4 c5 c6 c7
            go_wp2_with fail
            refine (TB.out _ HZ.out.1).mono ?_; rintro e w2 ⟨rfl, b2⟩
            have hz3 := HZ.out.below b2
            clear b2 kc0 kf0 kc1 kf1 HZ
            go_wp2_with fail
            go_ret
            exact ⟨by rw [HX.out]; rfl, hz3.1⟩
        · have hk' : k = L.length := by omega
          subst hk'
          have HX := Lib.hid (trustsB_yes (show trustsOk key l L from ⟨HP.out, HL.out, HU.out⟩))
          go_wp2_with fail
          go_ret
          exact ⟨by rw [HX.out]; rfl, hz.1⟩
    · have hbl : ((L.length : Int) == (l.length : Int)) = false := beq_false_of_ne (by omega)
      have hbn : ((L.length : Int) != (l.length : Int)) = true := by rw [bne, hbl]; rfl
      have HX := Lib.hid (trustsB_no (show ¬ trustsOk key l L from fun h => hln h.2.1))
      clear hp hln
      go_enter Tryz.func75, Tryz.ntmps75
      go_wp2_with fail
      refine (PO.out _ K0.out.1).mono ?_; rintro e w1 ⟨rfl, b1⟩
      have h1 := K0.out.below b1
      clear b1 K0
      obtain ⟨kc0, kf0, -⟩ := h1.rd
      have H1 := Lib.hid h1
      clear h1
      go_wp2_with fail
      go_ret
      exact ⟨by rw [HX.out]; rfl, H1.out.1⟩
  · rw [okB_no hp] at PO
    have HX := Lib.hid (trustsB_no (show ¬ trustsOk key l L from fun h => hp h.1))
    clear hp
    go_enter Tryz.func75, Tryz.ntmps75
    go_wp2_with fail
    refine (PO.out _ K0.out.1).mono ?_; rintro e w1 ⟨rfl, b1⟩
    have h1 := K0.out.below b1
    clear b1 K0
    have H1 := Lib.hid h1
    clear h1
    go_wp2_with fail
    go_ret
    exact ⟨by rw [HX.out]; rfl, H1.out.1⟩
theorem info_truP : ∃ i, Tryz.prog.info? 94 = some i ∧ i.zero = some (.agg #[.int .i64 0, .int .i64 0, .int .i64 0, .int .i64 0, .int .i64 0, .int .i64 0, .int .i64 0, .bool false]) ∧ i.size = 8 ∧ i.bytes = 64 := by
  obtain ⟨i, hi, hzz⟩ := Option.map_eq_some_iff.1 info_tru
  simp only [Prod.mk.injEq] at hzz
  exact ⟨i, hi, hzz.1, hzz.2.1, hzz.2.2⟩
theorem make_tr (n : Nat) (hn : n ≤ 1048576) (w : World) :
    (Instr.makeSlice 27 (.int .i64 (n : Int)) (.int .i64 (n : Int))).run Tryz.prog w = .ok (.slice (some ⟨w.heap.size, 0, none⟩) n n) (w.alloc (.cells (madeCells (Value.agg #[.int .i64 0, .int .i64 0, .int .i64 0, .int .i64 0, .int .i64 0, .int .i64 0, .int .i64 0, .bool false]).cells (n * 8)) 94)) := by
  obtain ⟨i, hi, hz, hs, hb⟩ := info_truP
  have hr := run_make (P := Tryz.prog) w 27 94 i _ Tryz.underlying27 hi hz .i64 .i64 n n (by omega) (Int.le_refl _) (by rw [hb]; omega) (by omega)
  rw [hs] at hr
  simpa using hr
theorem trow_of_block {w : World} {base g n : Nat} {cs : Array Value} {L : List Tru} (hg : w.heap[g]? = some (.cells cs 94 (0, 0))) (hb : base ≤ g) (hc : cs.toList = flatS truV L) (hn : n = L.length) (h8 : n ≤ maxLen) :
    TrRow w base (.slice (some ⟨g, 0, none⟩) n n) L := by
  subst hn
  refine ⟨?_, .inr ⟨g, L.length, cs, rfl, hb, hg, Nat.le_refl _, h8, ?_, ?_⟩⟩
  · rw [flatS_length truV_len]
  · rw [← Array.length_toList, hc, flatS_length truV_len]
  · rw [hc, ← flatS_length truV_len, List.take_length]
set_option maxRecDepth 20000 in
set_option maxHeartbeats 4000000 in
theorem copiedT_calls (A : Option Addr) (L : List Tru) (cap : Nat) (w : World) (h0 : 0 < L.length) (h8 : L.length ≤ 1048576) (hA : Trs w w.heap.size A L) :
    Calls Tryz.prog 141 #[.slice A L.length cap] w (NewTr w L) := by
  obtain ⟨q, off, rfl, hq, _⟩ := hA 0 h0
  have hmk := fun u => make_tr L.length h8 u
  have hw0 : CellsAt (w.alloc (.cells (madeCells (Value.agg #[.int .i64 0, .int .i64 0, .int .i64 0, .int .i64 0, .int .i64 0, .int .i64 0, .int .i64 0, .bool false]).cells (L.length * 8)) 94)) w.heap.size 94 (madeCells (Value.agg #[.int .i64 0, .int .i64 0, .int .i64 0, .int .i64 0, .int .i64 0, .int .i64 0, .int .i64 0, .bool false]).cells (L.length * 8)) := CellsAt.new w _ _
  have hb0 := box_below w (.cells (madeCells (Value.agg #[.int .i64 0, .int .i64 0, .int .i64 0, .int .i64 0, .int .i64 0, .int .i64 0, .int .i64 0, .bool false]).cells (L.length * 8)) 94)
  have hsz : (madeCells (Value.agg #[.int .i64 0, .int .i64 0, .int .i64 0, .int .i64 0, .int .i64 0, .int .i64 0, .int .i64 0, .bool false]).cells (L.length * 8)).size = L.length * 8 := size_madeCells _ _
  have hnw : ∀ j v, (flatS truV L)[j]? = some v → (w.alloc (.cells (madeCells (Value.agg #[.int .i64 0, .int .i64 0, .int .i64 0, .int .i64 0, .int .i64 0, .int .i64 0, .int .i64 0, .bool false]).cells (L.length * 8)) 94)).cell? (Addr.add ⟨q, off, none⟩ j) = some v := by
    intro j v hv
    obtain ⟨ad, e, hc⟩ := (hA.below hb0 (Nat.le_refl _)).news truV_len (by omega) j v hv
    injection e with e
    rw [e]; exact hc
  have H0 := Lib.hid hnw
  have W0 := Lib.hid hw0
  have B0 := Lib.hid hb0
  have SZ := Lib.hid hsz
  have hl := flatS_length (L := L) truV_len
  have FL := Lib.hid hl
  have F1 := Lib.hid (truV_one L)
  clear hA hw0 hb0 hsz hnw hl
  unfold NewTr
  generalize madeCells (Value.agg #[.int .i64 0, .int .i64 0, .int .i64 0, .int .i64 0, .int .i64 0, .int .i64 0, .int .i64 0, .bool false]).cells (L.length * 8) = mc at hmk W0 B0 SZ H0
  have HL0 := Lib.hid h0
  have HL8 := Lib.hid h8
  have hn0 : (0 : Int) ≤ L.length := by omega
  have hle : (L.length : Int) ≤ 1048576 := by omega
  obtain ⟨n, hn⟩ : ∃ n, n = L.length := ⟨_, rfl⟩
  have HN := Lib.hid hn
  rw [← hn] at hmk hn0 hle ⊢
  clear hn h0 h8
  go_enter Tryz.func141, Tryz.ntmps141
  go_upto_region 2 with fail
  have hw0 := W0.out
  have hb0 := B0.out
  have h0q := H0.out
  clear hmk W0 B0 H0
  generalize World.alloc _ _ = w1 at hw0 hb0 h0q ⊢
  have HS := Lib.hid h0q
  have HLL := Lib.hid (show (flatS truV L).length = Nat.min n n * 8 by rw [FL.out, ← HN.out, show Nat.min n n = n from Nat.min_self n])
  have HF := Lib.hid (show 0 + (flatS truV L).length ≤ mc.size by rw [FL.out, SZ.out]; omega)
  have hrun := run_copy_rowS (P := Tryz.prog) w1 27 27 3 94 w.heap.size 0 n n ⟨q, off, none⟩ n cap mc 94 (flatS truV L) 8 Tryz.underlying27 (by rw [info_truP.choose_spec.1]; exact congrArg some info_truP.choose_spec.2.2.1) hw0 HLL.out HS.out HF.out F1.out
  rw [show Nat.min n n = n from Nat.min_self n] at hrun
  have hg2 := Lib.hid (setRow_heap w1 w.heap.size mc (mc.toList.take 0 ++ flatS truV L ++ mc.toList.drop (0 + (flatS truV L).length)).toArray 94 _ hw0)
  have hgb2 : RowKit.Hid (w1.grownBy (w1.setRow w.heap.size (mc.toList.take 0 ++ flatS truV L ++ mc.toList.drop (0 + (flatS truV L).length)).toArray) (some w.heap.size)) := Lib.hid ⟨rfl, rfl, rfl, by simp [World.setRow], fun k _ hk => setRow_other w1 w.heap.size k _ (by intro e; exact hk (by rw [e]))⟩
  have HG := Lib.hid hw0
  have HB := Lib.hid hb0
  generalize World.setRow w1 _ _ = w2 at hrun hg2 hgb2
  clear hw0 hb0 h0q HS HLL HF
  go_wp2_with fail
  go_ret
  refine ⟨_, rfl, trow_of_block hg2.out (Nat.le_refl _) ?_ HN.out (by have := HL8.out; have := HN.out; unfold maxLen; omega), ?_⟩
  · have : mc.toList.drop (0 + (flatS truV L).length) = [] := by
      apply List.drop_eq_nil_of_le
      rw [Array.length_toList, SZ.out, FL.out]; omega
    rw [this]; simp
  · exact HB.out.trans (gr_below hgb2.out HB.out.size (fun k e => by injection e; omega))
def CelAt (w : World) (b off : Nat) (t : Ce) : Prop := w.cell? ⟨b, off, none⟩ = some (.int .i64 t.1) ∧ w.cell? ⟨b, off + 1, none⟩ = some (.int .i64 t.2)
theorem CelAt.below {w u : World} {B b off : Nat} {t : Ce} (h : CelAt w b off t) (hb : Below B w u) (hlt : b < B) : CelAt u b off t := by
  have f := fun o => hb.cell (p := ⟨b, o, none⟩) hlt
  exact ⟨(f _).trans h.1, (f _).trans h.2⟩
theorem Cls.at_ {w : World} {B : Nat} {A : Option Addr} {L : List Ce} {k : Nat} (h : Cls w B A L) (hk : k < L.length) : ∃ b off, A = some ⟨b, off, none⟩ ∧ b < B ∧ CelAt w b (off + k * 2) (L.getD k default) := by
  obtain ⟨b, off, e, hb, hc⟩ := h k hk
  exact ⟨b, off, e, hb, hc 0 (by omega), hc 1 (by omega)⟩
def cellsOk (key : Int) (l : List Int) (L : List Ce) : Prop := (∀ i, i < L.length → isCell (L.getD i default).1 (L.getD i default).2) ∧ (L.length : Int) = sectorsOf key l
open Classical in
noncomputable def cellsB (key : Int) (l : List Int) (L : List Ce) : Bool := decide (cellsOk key l L)
open Classical in
theorem cellsB_yes {key : Int} {l : List Int} {L : List Ce} (h : cellsOk key l L) : cellsB key l L = true := by unfold cellsB; exact decide_eq_true h
open Classical in
theorem cellsB_no {key : Int} {l : List Int} {L : List Ce} (h : ¬ cellsOk key l L) : cellsB key l L = false := by unfold cellsB; exact decide_eq_false h
def UpToCell (L : List Ce) (k : Nat) : Prop := ∀ i, i < k → isCell (L.getD i default).1 (L.getD i default).2
set_option maxRecDepth 20000 in
set_option maxHeartbeats 4000000 in
theorem l11Cells_calls (key : Int) (A C : Option Addr) (l : List Int) (cap : Nat) (L : List Ce) (cap2 : Nat) (w : World) (hn : l.length ≤ maxLen) (hA : Ints w .i64 w.heap.size A l) (hN : L.length ≤ maxLen) (hC : Cls w w.heap.size C L) :
    Calls Tryz.prog 80 #[.agg (pA key A l.length cap), .slice C L.length cap2] w fun e w' => e = .returned (.bool (cellsB key l L)) ∧ Below w.heap.size w w' := by
  have K0 := Lib.hid (show Kept w [(w.heap.size, 26, (pA key A l.length cap))] _ from (Kept.refl w).put1 _ _ (pA key A l.length cap) rfl)
  have PO := Lib.hid (fun (u : World) (hb : Below w.heap.size w u) => specSectors_calls key A l cap u hn ((hA.below hb (Nat.le_refl _)).more hb.size))
  have TO := Lib.hid (fun (t : Ce) (u : World) => specCellOk_calls t.1 t.2 u)
  have HC := Lib.hid hC
  have hm := hN
  unfold maxLen at hm
  clear hA hC hN hn
  go_enter Tryz.func80, Tryz.ntmps80
  go_wp2_with fail
  go_loopw [5] (fun i wr => ∃ k : Nat, k ≤ L.length ∧ i = .int .i64 k ∧ UpToCell L k ∧ Kept w [(w.heap.size, 26, (pA key A l.length cap))] wr) (fun i _ => L.length - (intOf i).toNat)
  case atStart => exact ⟨0, Nat.zero_le _, rfl, fun i hi => absurd hi (by omega), K0.out⟩
  case round =>
    obtain ⟨k, hk, rfl, hup, hz⟩ := hrel
    have HU := Lib.hid hup
    clear hup
    by_cases hlt : k < L.length
    · obtain ⟨b, off, rfl, hb, hc⟩ := HC.out.at_ hlt
      have hlt' : (k : Int) < L.length := by omega
      have hk0 : (0 : Int) ≤ k := by omega
      have TB := Lib.hid (TO.out (L.getD k default))
      obtain ⟨c0, c1⟩ := hc.below hz.1 hb
      by_cases hok : isCell (L.getD k default).1 (L.getD k default).2
      · have NX := Lib.hid (show UpToCell L (k + 1) from fun i hi => by
          rcases Nat.lt_or_ge i k with h | h
          · exact HU.out i h
          · obtain rfl : i = k := by omega
            exact hok)
        rw [decide_eq_true hok] at TB
        clear hok HU
        generalize L.getD k default = t at hc TB c0 c1
        go_wp2_with fail
        refine (TB.out _).mono ?_; rintro e w1 ⟨rfl, b1⟩
        have h1 := hz.below b1
        clear b1 hz c0 c1
        go_wp2_with fail
        go_roundw
        case rel => exact ⟨k + 1, by omega, by go_num, NX.out, h1⟩
        case measure => simp [intOf]; omega
      · rw [decide_eq_false hok] at TB
        have HX := Lib.hid (cellsB_no (l := l) (L := L) (key := key) (fun h => hok (h.1 k hlt)))
        clear hok HU
        generalize L.getD k default = t at hc TB c0 c1
        go_wp2_with fail
        refine (TB.out _).mono ?_; rintro e w1 ⟨rfl, b1⟩
        have h1 := hz.below b1
        clear b1 hz c0 c1
        go_wp2_with fail
        go_ret
        exact ⟨by rw [HX.out]; rfl, h1.1⟩
    · have hk' : k = L.length := by omega
      subst hk'
      have PB := PO
      by_cases hs : (L.length : Int) = sectorsOf key l
      · have HX := Lib.hid (cellsB_yes (show cellsOk key l L from ⟨HU.out, hs⟩))
        have hbl : ((L.length : Int) == sectorsOf key l) = true := beq_iff_eq.2 hs
        generalize sectorsOf key l = ss at PB hbl
        clear hs
        obtain ⟨kc0, kf0, -⟩ := hz.rd
        go_wp2_with fail
        refine (PB.out _ hz.1).mono ?_; rintro e w1 ⟨rfl, b1⟩
        have h1 := hz.below b1
        clear b1 hz kc0 kf0
        go_wp2_with fail
        go_ret
        exact ⟨by rw [HX.out]; rfl, h1.1⟩
      · have HX := Lib.hid (cellsB_no (show ¬ cellsOk key l L from fun h => hs h.2))
        have hbl : ((L.length : Int) == sectorsOf key l) = false := beq_false_of_ne hs
        generalize sectorsOf key l = ss at PB hbl
        clear hs
        obtain ⟨kc0, kf0, -⟩ := hz.rd
        go_wp2_with fail
        refine (PB.out _ hz.1).mono ?_; rintro e w1 ⟨rfl, b1⟩
        have h1 := hz.below b1
        clear b1 hz kc0 kf0
        go_wp2_with fail
        go_ret
        exact ⟨by rw [HX.out]; rfl, h1.1⟩
noncomputable def sealB (key : Int) (l : List Int) (cnt : Int) (L : List Tru) (mac : Int) : Bool := trustsB key l L && decide (0 ≤ cnt ∧ cnt ≤ 10000) && decide (mac = macOf key l cnt L)
noncomputable def slotB (key : Int) (l : List Int) (cnt : Int) (L : List Tru) (mac : Int) (M : List Ce) : Bool := sealB key l cnt L mac && cellsB key l M
noncomputable def fitB (key : Int) (l : List Int) (L : List Tru) (M : List Ce) : Bool := (decide (M.length = 0) || cellsB key l M) && decide (L.length ≤ 4)
set_option maxRecDepth 20000 in
set_option maxHeartbeats 4000000 in
theorem specSealOk_calls (key : Int) (A : Option Addr) (l : List Int) (cap : Nat) (cnt : Int) (B : Option Addr) (L : List Tru) (tc : Nat) (mac : Int) (w : World) (hn : l.length ≤ maxLen) (hA : Ints w .i64 w.heap.size A l) (hN : L.length ≤ 1048576) (hB : Trs w w.heap.size B L) (hI : TrusI L) (hc0 : I64 cnt) :
    Calls Tryz.prog 248 #[.agg (pA key A l.length cap), .agg #[.int .i64 cnt, .slice B L.length tc, .int .i64 mac]] w fun e w' => e = .returned (.bool (sealB key l cnt L mac)) ∧ Below w.heap.size w w' := by
  have K0 := Lib.hid (show Kept w [(w.heap.size + 1, 89, #[.int .i64 cnt, .slice B L.length tc, .int .i64 mac]), (w.heap.size, 26, (pA key A l.length cap))] _ from (((Kept.refl w).put1 _ _ (pA key A l.length cap) rfl).put1 _ _ #[.int .i64 cnt, .slice B L.length tc, .int .i64 mac] (by simp)))
  have TS := Lib.hid (fun (u : World) (hb : Below w.heap.size w u) => l10Trusts_calls key A B l cap L tc u hn ((hA.below hb (Nat.le_refl _)).more hb.size) (by unfold maxLen; omega) ((hB.below hb (Nat.le_refl _)).more hb.size))
  have MC := Lib.hid (fun (u : World) (hb : Below w.heap.size w u) => specMac_calls key cnt A B l cap L tc u hn ((hA.below hb (Nat.le_refl _)).more hb.size) hN ((hB.below hb (Nat.le_refl _)).more hb.size) hI hc0)
  have IN := Lib.hid (fun (u : World) => l1In_b cnt 0 10000 _ u rfl)
  clear hA hB hN hI hc0 hn
  unfold sealB
  generalize trustsB key l L = ts at TS ⊢
  generalize macOf key l cnt L = mo at MC ⊢
  cases ts with
  | false =>
    rw [Bool.false_and, Bool.false_and]
    clear MC IN
    go_enter Tryz.func248, Tryz.ntmps248
    go_upto_region 1 with fail
    refine wp_region_class (C := fun u => Kept w [(w.heap.size + 1, 89, #[.int .i64 cnt, .slice B L.length tc, .int .i64 mac]), (w.heap.size, 26, (pA key A l.length cap))] u) (by kernel_rfl) (by kernel_rfl) (K0.out).drew ?_
    iterate 21 (first
      | go_big_quiet_skip
      | (go_big_quiet_want
         go_big_quiet_op
         first
           | go_big_quiet_on
           | (apply Exists.intro
              refine ⟨fun u hu => ?_, ?_⟩
              · first
                  | with_reducible rfl
                  | (go_at_call 79; exact (TS.out u hu.1).mono fun e w' h => ⟨h.1, hu.below h.2⟩)
                  | (obtain ⟨kc0, kf0, kc1, kf1, -⟩ := hu.rd; go_simp; first | done | with_reducible rfl)
              go_big_quiet_on)))
    refine wpQuiet_nil ?_
    intro uq hq
    go_wp2_with fail
    go_ret
    exact ⟨rfl, hq.1⟩
  | true =>
    rw [Bool.true_and]
    by_cases hr : 0 ≤ cnt ∧ cnt ≤ 10000
    · rw [decide_eq_true hr] at IN ⊢
      rw [Bool.true_and]
      clear hr
      by_cases hm : mac = mo
      · have hb : (mac == mo) = true := beq_iff_eq.2 hm
        rw [decide_eq_true hm]
        clear hm
        go_enter Tryz.func248, Tryz.ntmps248
        go_upto_region 1 with fail
        refine wp_region_class (C := fun u => Kept w [(w.heap.size + 1, 89, #[.int .i64 cnt, .slice B L.length tc, .int .i64 mac]), (w.heap.size, 26, (pA key A l.length cap))] u) (by kernel_rfl) (by kernel_rfl) (K0.out).drew ?_
        iterate 21 (first
          | go_big_quiet_skip
          | (go_big_quiet_want
             go_big_quiet_op
             first
               | go_big_quiet_on
               | (apply Exists.intro
                  refine ⟨fun u hu => ?_, ?_⟩
                  · first
                      | with_reducible rfl
                      | (go_at_call 79; exact (TS.out u hu.1).mono fun e w' h => ⟨h.1, hu.below h.2⟩)
                      | (go_at_call 82; exact class_same hu (IN.out u))
                      | (go_at_call 152; exact (MC.out u hu.1).mono fun e w' h => ⟨h.1, hu.below h.2⟩)
                      | (obtain ⟨kc0, kf0, kc1, kf1, -⟩ := hu.rd; go_simp; first | done | with_reducible rfl)
                  go_big_quiet_on)))
        refine wpQuiet_nil ?_
        intro uq hq
        go_wp2_with fail
        go_ret
        exact ⟨rfl, hq.1⟩
      · have hb : (mac == mo) = false := beq_false_of_ne hm
        rw [decide_eq_false hm]
        clear hm
        go_enter Tryz.func248, Tryz.ntmps248
        go_upto_region 1 with fail
        refine wp_region_class (C := fun u => Kept w [(w.heap.size + 1, 89, #[.int .i64 cnt, .slice B L.length tc, .int .i64 mac]), (w.heap.size, 26, (pA key A l.length cap))] u) (by kernel_rfl) (by kernel_rfl) (K0.out).drew ?_
        iterate 21 (first
          | go_big_quiet_skip
          | (go_big_quiet_want
             go_big_quiet_op
             first
               | go_big_quiet_on
               | (apply Exists.intro
                  refine ⟨fun u hu => ?_, ?_⟩
                  · first
                      | with_reducible rfl
                      | (go_at_call 79; exact (TS.out u hu.1).mono fun e w' h => ⟨h.1, hu.below h.2⟩)
                      | (go_at_call 82; exact class_same hu (IN.out u))
                      | (go_at_call 152; exact (MC.out u hu.1).mono fun e w' h => ⟨h.1, hu.below h.2⟩)
                      | (obtain ⟨kc0, kf0, kc1, kf1, -⟩ := hu.rd; go_simp; first | done | with_reducible rfl)
                  go_big_quiet_on)))
        refine wpQuiet_nil ?_
        intro uq hq
        go_wp2_with fail
        go_ret
        exact ⟨rfl, hq.1⟩
    · rw [decide_eq_false hr] at IN ⊢
      rw [Bool.false_and]
      clear hr MC
      go_enter Tryz.func248, Tryz.ntmps248
      go_upto_region 1 with fail
      refine wp_region_class (C := fun u => Kept w [(w.heap.size + 1, 89, #[.int .i64 cnt, .slice B L.length tc, .int .i64 mac]), (w.heap.size, 26, (pA key A l.length cap))] u) (by kernel_rfl) (by kernel_rfl) (K0.out).drew ?_
      iterate 21 (first
        | go_big_quiet_skip
        | (go_big_quiet_want
           go_big_quiet_op
           first
             | go_big_quiet_on
             | (apply Exists.intro
                refine ⟨fun u hu => ?_, ?_⟩
                · first
                    | with_reducible rfl
                    | (go_at_call 79; exact (TS.out u hu.1).mono fun e w' h => ⟨h.1, hu.below h.2⟩)
                    | (go_at_call 82; exact class_same hu (IN.out u))
                    | (obtain ⟨kc0, kf0, kc1, kf1, -⟩ := hu.rd; go_simp; first | done | with_reducible rfl)
                go_big_quiet_on)))
      refine wpQuiet_nil ?_
      intro uq hq
      go_wp2_with fail
      go_ret
      exact ⟨rfl, hq.1⟩
set_option maxRecDepth 20000 in
set_option maxHeartbeats 2000000 in
theorem specSlotOk_calls (key : Int) (A : Option Addr) (l : List Int) (cap : Nat) (cnt : Int) (B : Option Addr) (L : List Tru) (tc : Nat) (mac : Int) (C : Option Addr) (M : List Ce) (cc : Nat) (w : World) (hn : l.length ≤ maxLen) (hA : Ints w .i64 w.heap.size A l) (hN : L.length ≤ 1048576) (hB : Trs w w.heap.size B L) (hI : TrusI L) (hc0 : I64 cnt) (hM : M.length ≤ 1048576) (hC : Cls w w.heap.size C M) :
    Calls Tryz.prog 223 #[.agg (pA key A l.length cap), .agg #[.int .i64 cnt, .slice B L.length tc, .int .i64 mac, .slice C M.length cc]] w fun e w' => e = .returned (.bool (slotB key l cnt L mac M)) ∧ Below w.heap.size w w' := by
  have K0 := Lib.hid (show Kept w [(w.heap.size + 1, 91, #[.int .i64 cnt, .slice B L.length tc, .int .i64 mac, .slice C M.length cc]), (w.heap.size, 26, (pA key A l.length cap))] _ from (((Kept.refl w).put1 _ _ (pA key A l.length cap) rfl).put1 _ _ #[.int .i64 cnt, .slice B L.length tc, .int .i64 mac, .slice C M.length cc] (by simp)))
  have SO := Lib.hid (fun (u : World) (hb : Below w.heap.size w u) => specSealOk_calls key A l cap cnt B L tc mac u hn ((hA.below hb (Nat.le_refl _)).more hb.size) hN ((hB.below hb (Nat.le_refl _)).more hb.size) hI hc0)
  have CL := Lib.hid (fun (u : World) (hb : Below w.heap.size w u) => l11Cells_calls key A C l cap M cc u hn ((hA.below hb (Nat.le_refl _)).more hb.size) (by unfold maxLen; omega) ((hC.below hb (Nat.le_refl _)).more hb.size))
  clear hA hB hN hI hc0 hn hC hM
  unfold slotB
  generalize sealB key l cnt L mac = so at SO ⊢
  generalize cellsB key l M = co at CL ⊢
  cases so with
  | false =>
    rw [Bool.false_and]
    clear CL
    go_enter Tryz.func223, Tryz.ntmps223
    go_wp2_with fail
    refine (SO.out _ K0.out.1).mono ?_; rintro e uz1 ⟨rfl, bz2⟩
    have hz3 := K0.out.below bz2
    clear bz2
    obtain ⟨kc0, kf0, kc1, kf1, -⟩ := hz3.rd
    go_wp2_with fail
    go_ret
    exact ⟨rfl, hz3.1⟩
  | true =>
    rw [Bool.true_and]
    go_enter Tryz.func223, Tryz.ntmps223
    go_wp2_with fail
    refine (SO.out _ K0.out.1).mono ?_; rintro e uz1 ⟨rfl, bz2⟩
    have hz3 := K0.out.below bz2
    clear bz2
    obtain ⟨kc0, kf0, kc1, kf1, -⟩ := hz3.rd
    go_wp2_with fail
    refine (CL.out _ hz3.1).mono ?_; rintro e uz4 ⟨rfl, bz5⟩
    have hz6 := hz3.below bz5
    clear bz5 hz3 kc0 kf0 kc1 kf1
    obtain ⟨kc0, kf0, kc1, kf1, -⟩ := hz6.rd
    go_wp2_with fail
    go_ret
    exact ⟨rfl, hz6.1⟩
set_option maxRecDepth 20000 in
set_option maxHeartbeats 2000000 in
theorem l12Slot_calls (key : Int) (A : Option Addr) (l : List Int) (cap : Nat) (cnt : Int) (B : Option Addr) (L : List Tru) (tc : Nat) (mac : Int) (C : Option Addr) (M : List Ce) (cc : Nat) (w : World) (hn : l.length ≤ maxLen) (hA : Ints w .i64 w.heap.size A l) (hN : L.length ≤ 1048576) (hM : M.length ≤ 1048576) (hC : Cls w w.heap.size C M) :
    Calls Tryz.prog 81 #[.agg (pA key A l.length cap), .agg #[.int .i64 cnt, .slice B L.length tc, .int .i64 mac, .slice C M.length cc]] w fun e w' => e = .returned (.bool (fitB key l L M)) ∧ Below w.heap.size w w' := by
  have K0 := Lib.hid (show Kept w [(w.heap.size + 1, 91, #[.int .i64 cnt, .slice B L.length tc, .int .i64 mac, .slice C M.length cc]), (w.heap.size, 26, (pA key A l.length cap))] _ from (((Kept.refl w).put1 _ _ (pA key A l.length cap) rfl).put1 _ _ #[.int .i64 cnt, .slice B L.length tc, .int .i64 mac, .slice C M.length cc] (by simp)))
  have CL := Lib.hid (fun (u : World) (hb : Below w.heap.size w u) => l11Cells_calls key A C l cap M cc u hn ((hA.below hb (Nat.le_refl _)).more hb.size) (by unfold maxLen; omega) ((hC.below hb (Nat.le_refl _)).more hb.size))
  clear hA hn hC
  unfold fitB
  generalize cellsB key l M = co at CL ⊢
  by_cases hz : M.length = 0
  · rw [decide_eq_true hz, Bool.true_or, Bool.true_and]
    have b0 : ((M.length : Int) == 0) = true := beq_iff_eq.2 (by omega)
    have b1 : (M.length == 0) = true := beq_iff_eq.2 hz
    clear hz CL
    by_cases h4 : L.length ≤ 4
    · have d4 : decide ((L.length : Int) ≤ 4) = true := decide_eq_true (by omega)
      rw [decide_eq_true h4]
      clear h4
      go_enter Tryz.func81, Tryz.ntmps81
      go_wp2_with fail
      go_ret
      exact ⟨rfl, K0.out.1⟩
    · have d4 : decide ((L.length : Int) ≤ 4) = false := decide_eq_false (by omega)
      rw [decide_eq_false h4]
      clear h4
      go_enter Tryz.func81, Tryz.ntmps81
      go_wp2_with fail
      go_ret
      exact ⟨rfl, K0.out.1⟩
  · rw [decide_eq_false hz, Bool.false_or]
    have b0 : ((M.length : Int) == 0) = false := beq_false_of_ne (by omega)
    have b1 : (M.length == 0) = false := beq_false_of_ne hz
    clear hz
    cases co with
    | false =>
      rw [Bool.false_and]
      go_enter Tryz.func81, Tryz.ntmps81
      go_wp2_with fail
      refine (CL.out _ K0.out.1).mono ?_; rintro e uz1 ⟨rfl, bz2⟩
      have hz3 := K0.out.below bz2
      clear bz2
      obtain ⟨kc0, kf0, kc1, kf1, -⟩ := hz3.rd
      go_wp2_with fail
      go_ret
      exact ⟨rfl, hz3.1⟩
    | true =>
      rw [Bool.true_and]
      by_cases h4 : L.length ≤ 4
      · have d4 : decide ((L.length : Int) ≤ 4) = true := decide_eq_true (by omega)
        rw [decide_eq_true h4]
        clear h4
        go_enter Tryz.func81, Tryz.ntmps81
        go_wp2_with fail
        refine (CL.out _ K0.out.1).mono ?_; rintro e uz1 ⟨rfl, bz2⟩
        have hz3 := K0.out.below bz2
        clear bz2
        obtain ⟨kc0, kf0, kc1, kf1, -⟩ := hz3.rd
        go_wp2_with fail
        go_ret
        exact ⟨rfl, hz3.1⟩
      · have d4 : decide ((L.length : Int) ≤ 4) = false := decide_eq_false (by omega)
        rw [decide_eq_false h4]
        clear h4
        go_enter Tryz.func81, Tryz.ntmps81
        go_wp2_with fail
        refine (CL.out _ K0.out.1).mono ?_; rintro e uz1 ⟨rfl, bz2⟩
        have hz3 := K0.out.below bz2
        clear bz2
        obtain ⟨kc0, kf0, kc1, kf1, -⟩ := hz3.rd
        go_wp2_with fail
        go_ret
        exact ⟨rfl, hz3.1⟩
structure SlN where
  count : Int
  trusts : List Tru
  mac : Int
  cells : List Ce
instance : Inhabited SlN := ⟨⟨0, [], 0, []⟩⟩
def SlN.Fits (s : SlN) : Prop := s.trusts.length ≤ 1048576 ∧ s.cells.length ≤ 1048576 ∧ TrusI s.trusts ∧ I64 s.count
def SlR (w : World) (Bd : Nat) (B : Option Addr) (tc : Nat) (C : Option Addr) (cc : Nat) (s : SlN) : Prop := Trs w Bd B s.trusts ∧ Cls w Bd C s.cells
def SlotAt (w : World) (Bd b off : Nat) (s : SlN) : Prop :=
  ∃ B tc C cc, w.cell? ⟨b, off, none⟩ = some (.int .i64 s.count) ∧ w.cell? ⟨b, off + 1, none⟩ = some (.slice B s.trusts.length tc) ∧ w.cell? ⟨b, off + 2, none⟩ = some (.int .i64 s.mac) ∧ w.cell? ⟨b, off + 3, none⟩ = some (.slice C s.cells.length cc) ∧ SlR w Bd B tc C cc s
def Slots (w : World) (Bd : Nat) (A : Option Addr) (S : List SlN) : Prop := ∀ i, i < S.length → ∃ b off, A = some ⟨b, off, none⟩ ∧ b < Bd ∧ SlotAt w Bd b (off + i * 4) (S.getD i default)
theorem SlR.below {w u : World} {Bd D : Nat} {B C : Option Addr} {tc cc : Nat} {s : SlN} (h : SlR w Bd B tc C cc s) (hb : Below D w u) (hD : Bd ≤ D) : SlR u Bd B tc C cc s := ⟨h.1.below hb hD, h.2.below hb hD⟩
theorem SlR.more {w : World} {Bd D : Nat} {B C : Option Addr} {tc cc : Nat} {s : SlN} (h : SlR w Bd B tc C cc s) (hD : Bd ≤ D) : SlR w D B tc C cc s := ⟨h.1.more hD, h.2.more hD⟩
theorem SlotAt.below {w u : World} {Bd D b off : Nat} {s : SlN} (h : SlotAt w Bd b off s) (hb : Below D w u) (hD : Bd ≤ D) (hlt : b < Bd) : SlotAt u Bd b off s := by
  obtain ⟨B, tc, C, cc, c0, c1, c2, c3, hr⟩ := h
  have f := fun o => hb.cell (p := ⟨b, o, none⟩) (Nat.lt_of_lt_of_le hlt hD)
  exact ⟨B, tc, C, cc, (f _).trans c0, (f _).trans c1, (f _).trans c2, (f _).trans c3, hr.below hb hD⟩
theorem SlotAt.more {w : World} {Bd D b off : Nat} {s : SlN} (h : SlotAt w Bd b off s) (hD : Bd ≤ D) : SlotAt w D b off s := by
  obtain ⟨B, tc, C, cc, c0, c1, c2, c3, hr⟩ := h
  exact ⟨B, tc, C, cc, c0, c1, c2, c3, hr.more hD⟩
theorem Slots.below {w u : World} {Bd D : Nat} {A : Option Addr} {S : List SlN} (h : Slots w Bd A S) (hb : Below D w u) (hD : Bd ≤ D) : Slots u Bd A S := by
  intro i hi
  obtain ⟨b, off, e, hlt, hs⟩ := h i hi
  exact ⟨b, off, e, hlt, hs.below hb hD hlt⟩
theorem Slots.more {w : World} {Bd D : Nat} {A : Option Addr} {S : List SlN} (h : Slots w Bd A S) (hD : Bd ≤ D) : Slots w D A S := by
  intro i hi
  obtain ⟨b, off, e, hlt, hs⟩ := h i hi
  exact ⟨b, off, e, by omega, hs.more hD⟩
theorem Slots.grow {w u : World} {A : Option Addr} {S : List SlN} (h : Slots w w.heap.size A S) (hb : Below w.heap.size w u) : Slots u u.heap.size A S := (h.below hb (Nat.le_refl _)).more hb.size
noncomputable def choiceB (key : Int) (l : List Int) (n : Int) (s : SlN) : Bool := slotB key l s.count s.trusts s.mac s.cells && decide (s.count = n)
noncomputable def chosenOf (key : Int) (l : List Int) (S : List SlN) (n : Int) : Int := if S.findIdx (choiceB key l n) < S.length then (S.findIdx (choiceB key l n) : Int) else -1
theorem chosenOf_at {key n : Int} {l : List Int} {S : List SlN} {k : Nat} (hk : k < S.length) (h : choiceB key l n (S.getD k default) = true) (hn : ∀ j, j < k → choiceB key l n (S.getD j default) = false) : chosenOf key l S n = k := by
  have e : S.findIdx (choiceB key l n) = k := by
    rw [List.findIdx_eq hk]
    refine ⟨by rwa [List.getD_eq_getElem?_getD, List.getElem?_eq_getElem hk] at h, fun j hj => ?_⟩
    have h2 := hn j hj
    rw [List.getD_eq_getElem?_getD, List.getElem?_eq_getElem (by omega)] at h2
    simpa using h2
  unfold chosenOf
  rw [e, if_pos hk]
theorem chosenOf_none {key n : Int} {l : List Int} {S : List SlN} (hn : ∀ j, j < S.length → choiceB key l n (S.getD j default) = false) : chosenOf key l S n = -1 := by
  unfold chosenOf
  rw [if_neg]
  intro hlt
  have h := List.findIdx_getElem (w := hlt)
  have h2 := hn _ hlt
  rw [List.getD_eq_getElem?_getD, List.getElem?_eq_getElem hlt] at h2
  simp only [Option.getD_some] at h2
  rw [h2] at h; cases h
def NoneYet (key : Int) (l : List Int) (n : Int) (S : List SlN) (k : Nat) : Prop := ∀ j, j < k → choiceB key l n (S.getD j default) = false
theorem NoneYet.succ {key n : Int} {l : List Int} {S : List SlN} {k : Nat} (h : NoneYet key l n S k) (hk : choiceB key l n (S.getD k default) = false) : NoneYet key l n S (k + 1) := by
  intro j hj
  rcases Nat.lt_or_ge j k with h1 | h1
  · exact h j h1
  · obtain rfl : j = k := by omega
    exact hk
set_option maxRecDepth 20000 in
set_option maxHeartbeats 4000000 in
theorem specChosen_calls (key : Int) (A D : Option Addr) (l : List Int) (cap : Nat) (S : List SlN) (cap2 : Nat) (n : Int) (w : World) (hn : l.length ≤ maxLen) (hA : Ints w .i64 w.heap.size A l) (hN : S.length ≤ 1048576) (hD : Slots w w.heap.size D S) (hF : ∀ i, i < S.length → (S.getD i default).Fits) :
    Calls Tryz.prog 166 #[.agg (pA key A l.length cap), .slice D S.length cap2, .int .i64 n] w fun e w' => e = .returned (.int .i64 (chosenOf key l S n)) ∧ Below w.heap.size w w' := by
  have K0 := Lib.hid (show Kept w [(w.heap.size, 26, (pA key A l.length cap))] _ from (Kept.refl w).put1 _ _ (pA key A l.length cap) rfl)
  have SO := Lib.hid (fun (s : SlN) (B : Option Addr) (tc : Nat) (C : Option Addr) (cc : Nat) (hs : s.Fits) (hr : SlR w w.heap.size B tc C cc s) (u : World) (hb : Below w.heap.size w u) =>
    specSlotOk_calls key A l cap s.count B s.trusts tc s.mac C s.cells cc u hn ((hA.below hb (Nat.le_refl _)).more hb.size) hs.1 ((hr.1.below hb (Nat.le_refl _)).more hb.size) hs.2.2.1 hs.2.2.2 hs.2.1 ((hr.2.below hb (Nat.le_refl _)).more hb.size))
  have HD := Lib.hid hD
  have HF := Lib.hid hF
  clear hA hD hF hn
  go_enter Tryz.func166, Tryz.ntmps166
  go_wp2_with fail
  go_loopw [7] (fun i wr => ∃ k : Nat, k ≤ S.length ∧ i = .int .i64 k ∧ NoneYet key l n S k ∧ Kept w [(w.heap.size, 26, (pA key A l.length cap))] wr) (fun i _ => S.length - (intOf i).toNat)
  case atStart => exact ⟨0, Nat.zero_le _, rfl, fun i hi => absurd hi (by omega), K0.out⟩
  case round =>
    obtain ⟨k, hk, rfl, hup, hz⟩ := hrel
    have HU := Lib.hid hup
    clear hup
    by_cases hlt : k < S.length
    · obtain ⟨b, off, rfl, hb, B, tc, C, cc, c0, c1, c2, c3, hr⟩ := HD.out k hlt
      have hlt' : (k : Int) < S.length := by omega
      have hk0 : (0 : Int) ≤ k := by omega
      have TB := Lib.hid (SO.out _ B tc C cc (HF.out k hlt) hr)
      have HCH := Lib.hid (show choiceB key l n (S.getD k default) = (slotB key l (S.getD k default).count (S.getD k default).trusts (S.getD k default).mac (S.getD k default).cells && decide ((S.getD k default).count = n)) from rfl)
      have HAT := Lib.hid (fun (h : choiceB key l n (S.getD k default) = true) => chosenOf_at hlt h HU.out)
      have HNX := Lib.hid (fun (h : choiceB key l n (S.getD k default) = false) => HU.out.succ h)
      clear hr
      generalize slotB key l (S.getD k default).count (S.getD k default).trusts (S.getD k default).mac (S.getD k default).cells = sb at TB HCH
      generalize choiceB key l n (S.getD k default) = ch at HCH HAT HNX
      generalize (S.getD k default).count = sc at c0 TB HCH
      generalize (S.getD k default).mac = sm at c2 TB
      generalize (S.getD k default).trusts.length = tl at c1 TB
      generalize (S.getD k default).cells.length = cl at c3 TB
      cases sb with
      | false =>
        have NX := Lib.hid (HNX.out (by rw [HCH.out, Bool.false_and]))
        clear HCH HAT HNX HU
        go_upto_region 4 with fail
        refine wp_region_class (C := fun u => Kept w [(w.heap.size, 26, (pA key A l.length cap))] u) (by kernel_rfl) (by kernel_rfl) hz.drew ?_
        iterate 16 (first
          | go_big_quiet_skip
          | (go_big_quiet_want
             go_big_quiet_op
             first
               | go_big_quiet_on
               | (apply Exists.intro
                  refine ⟨fun u hu => ?_, ?_⟩
                  · first
                      | with_reducible rfl
                      | (go_at_call 223; exact (TB.out u hu.1).mono fun e w' h => ⟨h.1, hu.below h.2⟩)
                      | (obtain ⟨kc0, kf0, -⟩ := hu.rd; have d0 := (hu.1.cell (p := ⟨b, off + k * 4, none⟩) hb).trans c0; have d1 := (hu.1.cell (p := ⟨b, off + k * 4 + 1, none⟩) hb).trans c1; have d2 := (hu.1.cell (p := ⟨b, off + k * 4 + 2, none⟩) hb).trans c2; have d3 := (hu.1.cell (p := ⟨b, off + k * 4 + 3, none⟩) hb).trans c3; go_simp; first | done | with_reducible rfl)
                  go_big_quiet_on)))
        refine wpQuiet_nil ?_
        intro uq hq
        go_wp2_with fail
        go_roundw
        case rel => exact ⟨k + 1, by omega, by go_num, NX.out, hq⟩
        case measure => simp [intOf]; omega
      | true =>
        by_cases hcn : sc = n
        · have AT := Lib.hid (HAT.out (by rw [HCH.out, decide_eq_true hcn]; rfl))
          have hbe : (sc == n) = true := beq_iff_eq.2 hcn
          clear HCH HAT HNX HU hcn
          go_upto_region 4 with fail
          refine wp_region_class (C := fun u => Kept w [(w.heap.size, 26, (pA key A l.length cap))] u) (by kernel_rfl) (by kernel_rfl) hz.drew ?_
          iterate 16 (first
            | go_big_quiet_skip
            | (go_big_quiet_want
               go_big_quiet_op
               first
                 | go_big_quiet_on
                 | (apply Exists.intro
                    refine ⟨fun u hu => ?_, ?_⟩
                    · first
                        | with_reducible rfl
                        | (go_at_call 223; exact (TB.out u hu.1).mono fun e w' h => ⟨h.1, hu.below h.2⟩)
                        | (obtain ⟨kc0, kf0, -⟩ := hu.rd; have d0 := (hu.1.cell (p := ⟨b, off + k * 4, none⟩) hb).trans c0; have d1 := (hu.1.cell (p := ⟨b, off + k * 4 + 1, none⟩) hb).trans c1; have d2 := (hu.1.cell (p := ⟨b, off + k * 4 + 2, none⟩) hb).trans c2; have d3 := (hu.1.cell (p := ⟨b, off + k * 4 + 3, none⟩) hb).trans c3; go_simp; first | done | with_reducible rfl)
                    go_big_quiet_on)))
          refine wpQuiet_nil ?_
          intro uq hq
          go_wp2_with fail
          go_ret
          exact ⟨by rw [AT.out]; rfl, hq.1⟩
        · have NX := Lib.hid (HNX.out (by rw [HCH.out, decide_eq_false hcn]; rfl))
          have hbe : (sc == n) = false := beq_false_of_ne hcn
          clear HCH HAT HNX HU hcn
          go_upto_region 4 with fail
          refine wp_region_class (C := fun u => Kept w [(w.heap.size, 26, (pA key A l.length cap))] u) (by kernel_rfl) (by kernel_rfl) hz.drew ?_
          iterate 16 (first
            | go_big_quiet_skip
            | (go_big_quiet_want
               go_big_quiet_op
               first
                 | go_big_quiet_on
                 | (apply Exists.intro
                    refine ⟨fun u hu => ?_, ?_⟩
                    · first
                        | with_reducible rfl
                        | (go_at_call 223; exact (TB.out u hu.1).mono fun e w' h => ⟨h.1, hu.below h.2⟩)
                        | (obtain ⟨kc0, kf0, -⟩ := hu.rd; have d0 := (hu.1.cell (p := ⟨b, off + k * 4, none⟩) hb).trans c0; have d1 := (hu.1.cell (p := ⟨b, off + k * 4 + 1, none⟩) hb).trans c1; have d2 := (hu.1.cell (p := ⟨b, off + k * 4 + 2, none⟩) hb).trans c2; have d3 := (hu.1.cell (p := ⟨b, off + k * 4 + 3, none⟩) hb).trans c3; go_simp; first | done | with_reducible rfl)
                    go_big_quiet_on)))
          refine wpQuiet_nil ?_
          intro uq hq
          go_wp2_with fail
          go_roundw
          case rel => exact ⟨k + 1, by omega, by go_num, NX.out, hq⟩
          case measure => simp [intOf]; omega
    · have hk' : k = S.length := by omega
      subst hk'
      have HX := Lib.hid (chosenOf_none (key := key) (l := l) (n := n) HU.out)
      clear HU
      go_wp2_with fail
      go_ret
      exact ⟨by rw [HX.out]; rfl, hz.1⟩
end Go.Proofs.YteoijmejhdocdaaGreatDoor.Mx

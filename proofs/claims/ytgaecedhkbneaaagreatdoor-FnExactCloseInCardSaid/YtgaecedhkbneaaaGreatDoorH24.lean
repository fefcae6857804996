import Derived.Test.YtgaecedhkbneaaaGreatDoorH08
import Derived.Test.YtgaecedhkbneaaaGreatDoorH22
import Derived.Test.YtgaecedhkbneaaaGreatDoorH06
import Derived.Test.YtgaecedhkbneaaaGreatDoorH12
import Derived.Test.YtgaecedhkbneaaaGreatDoorH10
namespace Go.Proofs.YtgaecedhkbneaaaGreatDoor.Mx
open Go.ChangeShapes Go.WideShapes Go.ChangeAt Go.RowKit
set_option linter.unusedVariables false
theorem isSealCount_calls (n : Int) (w : World) (hn : I64 n) :
    Calls Tryz.prog 65 #[.int .i64 n] w fun e w' => e = .returned (.bool (decide (0 ≤ n ∧ n ≤ 10000))) ∧ w = w' := by
  obtain ⟨m0, m1⟩ := hn
  by_cases h0 : 0 ≤ n
  · by_cases h1 : n ≤ 10000
    · rw [decide_eq_true ⟨h0, h1⟩]
      go_enter Tryz.func65, Tryz.ntmps65
      go_wp2
      go_ret
      exact ⟨rfl, rfl⟩
    · rw [decide_eq_false (fun h => h1 h.2)]
      have h2 : 10000 < n := by omega
      go_enter Tryz.func65, Tryz.ntmps65
      go_wp2
      go_ret
      exact ⟨rfl, rfl⟩
  · rw [decide_eq_false (fun h => h0 h.1)]
    have h2 : n < 0 := by omega
    go_enter Tryz.func65, Tryz.ntmps65
    go_wp2
    go_ret
    exact ⟨rfl, rfl⟩
set_option maxRecDepth 20000 in
set_option maxHeartbeats 4000000 in
theorem implTrusts_calls (key : Int) (A C : Option Addr) (l : List Int) (cap : Nat) (hcap : l.length ≤ cap) (L : List Tru) (cap2 : Nat) (w : World) (hn : l.length ≤ 1048576) (hA : Ints w .i64 w.heap.size A l) (hN : L.length ≤ maxLen) (hC : Trs w w.heap.size C L) :
    Calls Tryz.prog 62 #[.agg #[.int .i64 key, .slice A l.length cap], .slice C L.length cap2] w fun e w' => e = .returned (.bool (trustsB key l L)) ∧ Below w.heap.size w w' := by
  have K0 := Lib.hid (show Kept w [(w.heap.size, 26, #[.int .i64 key, .slice A l.length cap])] _ from (Kept.refl w).put1 _ _ #[.int .i64 key, .slice A l.length cap] rfl)
  have hm2 : l.length ≤ maxLen := by unfold maxLen; omega
  have PO := Lib.hid (fun (u : World) (hb : Below w.heap.size w u) => planOk_calls key A l cap u hm2 hcap ((hA.below hb (Nat.le_refl _)).more hb.size))
  have TO := Lib.hid (fun (t : Tru) (x : Int) (u : World) (hb : Below w.heap.size w u) => implTrustOk_calls key x A l cap t.clock t.epoch t.cursor t.read t.written t.nread t.nwritten t.failed u hn hcap ((hA.below hb (Nat.le_refl _)).more hb.size))
  have HC := Lib.hid hC
  have hm := hN
  unfold maxLen at hm hm2
  clear hA hC hN hcap
  by_cases hp : planOk key l
  · rw [okB_yes hp] at PO
    by_cases hln : L.length = l.length
    · have hbl : ((L.length : Int) == (l.length : Int)) = true := beq_iff_eq.2 (by omega)
      have hbn : ((L.length : Int) != (l.length : Int)) = false := by rw [bne, hbl]; rfl
      have HP := Lib.hid hp
      have HL := Lib.hid hln
      clear hp hln
      go_enter Tryz.func62, Tryz.ntmps62
      go_wp2_with fail
      refine (PO.out _ K0.out.1).mono ?_; rintro e w1 ⟨rfl, b1⟩
      have h1 := K0.out.below b1
      clear b1 K0
      obtain ⟨kc0, kf0, -⟩ := h1.rd
      have H1 := Lib.hid h1
      clear h1
      go_wp2_with fail
      clear kc0 kf0
      go_loopw [20] (fun i wr => ∃ k : Nat, k ≤ L.length ∧ i = .int .i64 k ∧ UpToOk key l L k ∧ Kept w [(w.heap.size, 26, #[.int .i64 key, .slice A l.length cap])] wr) (fun i _ => L.length - (intOf i).toNat)
      case atStart => exact ⟨0, Nat.zero_le _, rfl, fun i hi => absurd hi (by omega), H1.out⟩
      case round =>
        obtain ⟨k, hk, rfl, hup, hz⟩ := hrel
        have HU := Lib.hid hup
        clear hup
        by_cases hlt : k < L.length
        · obtain ⟨b, off, rfl, hb, hc⟩ := HC.out.at_ hlt
          have hlt' : (k : Int) < L.length := by omega
          have hk0 : (0 : Int) ≤ k := by omega
          have TB := Lib.hid (TO.out (L.getD k default) k)
          obtain ⟨c0, c1, c2, c3, c4, c5, c6, c7⟩ := hc.below hz.1 hb
          by_cases hok : trustOk key l k (L.getD k default)
          · have NX := Lib.hid (show UpToOk key l L (k + 1) from fun i hi => by
              rcases Nat.lt_or_ge i k with h | h
              · exact HU.out i h
              · obtain rfl : i = k := by omega
                exact hok)
            rw [show (⟨(L.getD k default).clock, (L.getD k default).epoch, (L.getD k default).cursor, (L.getD k default).read, (L.getD k default).written, (L.getD k default).nread, (L.getD k default).nwritten, (L.getD k default).failed⟩ : Tru) = L.getD k default from rfl, trustB_yes hok] at TB
            clear hok HU hc
            generalize L.getD k default = t at c0 c1 c2 c3 c4 c5 c6 c7 TB
            go_upto_region 6 with fail
            have hz2 := hz.put1 wr.heap.size 80 #[.int .i64 t.clock, .int .i64 t.epoch, .int .i64 t.cursor, .int .i64 t.read, .int .i64 t.written, .int .i64 t.nread, .int .i64 t.nwritten, .bool t.failed] rfl
            obtain ⟨kc0, kf0, kc1, kf1, -⟩ := hz2.rd
            have HZ := Lib.hid hz2
            clear hz hz2 c0 c1 c2 c3 c4 c5 c6 c7
            go_wp2_with fail
            refine (TB.out _ HZ.out.1).mono ?_; rintro e w2 ⟨rfl, b2⟩
            have hz3 := (HZ.out.below b2).sub (L' := [(w.heap.size, 26, #[.int .i64 key, .slice A l.length cap])]) (by intro y hy; simp at hy ⊢; right; exact hy)
            clear b2 kc0 kf0 kc1 kf1 HZ
            go_wp2_with fail
            go_roundw
            case rel => exact ⟨k + 1, by omega, by go_num, NX.out, hz3⟩
            case measure => simp [intOf]; omega
          · rw [show (⟨(L.getD k default).clock, (L.getD k default).epoch, (L.getD k default).cursor, (L.getD k default).read, (L.getD k default).written, (L.getD k default).nread, (L.getD k default).nwritten, (L.getD k default).failed⟩ : Tru) = L.getD k default from rfl, trustB_no hok] at TB
            have HX := Lib.hid (trustsB_no (l := l) (L := L) (key := key) (fun h => hok (h.2.2 k hlt)))
            clear hok HU hc
            generalize L.getD k default = t at c0 c1 c2 c3 c4 c5 c6 c7 TB
            go_upto_region 6 with fail
            have hz2 := hz.put1 wr.heap.size 80 #[.int .i64 t.clock, .int .i64 t.epoch, .int .i64 t.cursor, .int .i64 t.read, .int .i64 t.written, .int .i64 t.nread, .int .i64 t.nwritten, .bool t.failed] rfl
            obtain ⟨kc0, kf0, kc1, kf1, -⟩ := hz2.rd
            have HZ := Lib.hid hz2
            clear hz hz2 c0 c1 c2 c3 c4 c5 c6 c7
            go_wp2_with fail
            refine (TB.out _ HZ.out.1).mono ?_; rintro e w2 ⟨rfl, b2⟩
            have hz3 := HZ.out.below b2
            clear b2 kc0 kf0 kc1 kf1 HZ
            go_wp2_with fail
            go_ret
            exact ⟨by rw [HX.out]; rfl, hz3.1⟩
        · have hk' : k = L.length := by omega
          subst hk'
          have HX := Lib.hid (trustsB_yes (show trustsOk key l L from ⟨HP.out, HL.out, HU.out⟩))
          go_wp2_with fail
          go_ret
          exact ⟨by rw [HX.out]; rfl, hz.1⟩
    · have hbl : ((L.length : Int) == (l.length : Int)) = false := beq_false_of_ne (by omega)
      have hbn : ((L.length : Int) != (l.length : Int)) = true := by rw [bne, hbl]; rfl
      have HX := Lib.hid (trustsB_no (show ¬ trustsOk key l L from fun h => hln h.2.1))
      clear hp hln
      go_enter Tryz.func62, Tryz.ntmps62
      go_wp2_with fail
      refine (PO.out _ K0.out.1).mono ?_; rintro e w1 ⟨rfl, b1⟩
      have h1 := K0.out.below b1
      clear b1 K0
      obtain ⟨kc0, kf0, -⟩ := h1.rd
      have H1 := Lib.hid h1
      clear h1
      go_wp2_with fail
      go_ret
      exact ⟨by rw [HX.out]; rfl, H1.out.1⟩
  · rw [okB_no hp] at PO
    have HX := Lib.hid (trustsB_no (show ¬ trustsOk key l L from fun h => hp h.1))
    clear hp
    go_enter Tryz.func62, Tryz.ntmps62
    go_wp2_with fail
    refine (PO.out _ K0.out.1).mono ?_; rintro e w1 ⟨rfl, b1⟩
    have h1 := K0.out.below b1
    clear b1 K0
    have H1 := Lib.hid h1
    clear h1
    go_wp2_with fail
    go_ret
    exact ⟨by rw [HX.out]; rfl, H1.out.1⟩
theorem run_copy_noneS {P : Program} (w : World) (dT sT ty elem : TypeId) (d a : Option Addr) (dCap sCap s : Nat) (hu : P.underlying dT = some (.slice elem)) (hs : (P.info? elem).map (·.size) = some s) :
    (Builtin.copy_ #[dT, sT] ty #[.slice d 0 dCap, .slice a 0 sCap]).run P w = .ok (goInt 0) w := by
  cases hq : P.info? elem with
  | none => simp [hq] at hs
  | some i =>
    have hl : ∀ (x : Addr), (loadCells x 0).run P w = .ok #[] w := fun x => by simpa using run_loadCells_list (P := P) w x [] (by simp)
    cases d <;> cases a <;> simp [Builtin.copy_, run_underlying hu, Builtin.lenOf, Builtin.firstCells, sizeOf, typeInfo, hq, storeCells, hl]
theorem take0_drop {α : Type} (L : List α) (cs : List α) (h : L.length ≤ cs.length) : (L.take 0 ++ cs ++ L.drop (0 + cs.length)) = cs := by
  rw [List.drop_eq_nil_of_le (by omega)]; simp
theorem info_int64 : (Tryz.prog.info? 2).map (fun i => (i.zero, i.size, i.bytes)) = some (some (.int .i64 0), 1, 8) := by kernel_rfl
theorem info_D1 : ∃ i, Tryz.prog.info? 2 = some i ∧ i.zero = some (Value.int .i64 0) ∧ i.size = 1 ∧ i.bytes ≤ 64 := by
  obtain ⟨i, hi, hzz⟩ := Option.map_eq_some_iff.1 info_int64
  simp only [Prod.mk.injEq] at hzz
  exact ⟨i, hi, hzz.1, hzz.2.1, by omega⟩
theorem make_D1 (n : Nat) (hn : n ≤ 1048576) (w : World) :
    (Instr.makeSlice 24 (.int .i64 (n : Int)) (.int .i64 (n : Int))).run Tryz.prog w = .ok (.slice (some ⟨w.heap.size, 0, none⟩) n n) (w.alloc (.cells (madeCells (Value.int .i64 0).cells (n * 1)) 2)) := by
  obtain ⟨i, hi, hz, hs, hb⟩ := info_D1
  have hr := run_make (P := Tryz.prog) w 24 2 i _ Tryz.underlying24 hi hz .i64 .i64 n n (by omega) (Int.le_refl _) (by have := Nat.mul_le_mul hn hb; have e := Nat.mul_comm n i.bytes; omega) (by omega)
  rw [hs] at hr
  simpa using hr
set_option maxRecDepth 20000 in
set_option maxHeartbeats 4000000 in
theorem copied_D1 (q off n cap : Nat) (xs : List Value) (w : World) (h8 : n ≤ 1048576) (hl : xs.length = n * 1) (h1 : ∀ v ∈ xs, v.oneCell' = true) (hq : q < w.heap.size) (hsrc : ∀ j v, xs[j]? = some v → w.cell? (Addr.add ⟨q, off, none⟩ j) = some v) :
    Calls Tryz.prog 115 #[.slice (some ⟨q, off, none⟩) n cap] w fun e w' => e = .returned (.slice (some ⟨w.heap.size, 0, none⟩) n n) ∧ CellsAt w' w.heap.size 2 xs.toArray ∧ Below w.heap.size w w' ∧ w'.heap.size = w.heap.size + 1 := by
  have hmk := fun u => make_D1 n h8 u
  have hw0 : CellsAt (w.alloc (.cells (madeCells (Value.int .i64 0).cells (n * 1)) 2)) w.heap.size 2 (madeCells (Value.int .i64 0).cells (n * 1)) := CellsAt.new w _ _
  have hb0 := box_below w (.cells (madeCells (Value.int .i64 0).cells (n * 1)) 2)
  have hsz : (madeCells (Value.int .i64 0).cells (n * 1)).size = n * 1 := size_madeCells _ _
  have hnw : ∀ j v, xs[j]? = some v → (w.alloc (.cells (madeCells (Value.int .i64 0).cells (n * 1)) 2)).cell? (Addr.add ⟨q, off, none⟩ j) = some v := fun j v hv => by rw [Addr.add_mid]; exact (hb0.cell (p := ⟨q, off + j, none⟩) hq).trans (by rw [← Addr.add_mid]; exact hsrc j v hv)
  have H0 := Lib.hid hnw
  have W0 := Lib.hid hw0
  have B0 := Lib.hid hb0
  have SZ0 := Lib.hid hsz
  have FL := Lib.hid hl
  have F1 := Lib.hid h1
  clear hsrc hw0 hb0 hsz hnw hl h1 hq
  generalize madeCells (Value.int .i64 0).cells (n * 1) = mc at hmk W0 B0 SZ0 H0
  have HL8 := Lib.hid h8
  have hn0 : (0 : Int) ≤ n := by omega
  have hle : (n : Int) ≤ 1048576 := by omega
  clear h8
  go_enter Tryz.func115, Tryz.ntmps115
  go_upto_region 2 with fail
  have hw0 := W0.out
  have hb0 := B0.out
  have h0q := H0.out
  clear hmk W0 B0 H0
  have hs1 : (w.alloc (.cells mc 2)).heap.size = w.heap.size + 1 := by simp
  generalize World.alloc _ _ = w1 at hw0 hb0 h0q hs1 ⊢
  have hF : 0 + xs.length ≤ mc.size := by rw [FL.out, SZ0.out]; omega
  have hrun := run_copy_rowS (P := Tryz.prog) w1 24 24 3 2 w.heap.size 0 n n ⟨q, off, none⟩ n cap mc 2 xs 1 Tryz.underlying24 (by obtain ⟨i, hi, _, hs, _⟩ := info_D1; rw [hi]; simp [hs]) hw0 (by rw [FL.out, show Nat.min n n = n from Nat.min_self n]) h0q hF F1.out
  rw [show Nat.min n n = n from Nat.min_self n, take0_drop mc.toList xs (by rw [Array.length_toList, SZ0.out, FL.out]; omega)] at hrun
  have hg2 := Lib.hid (setRow_heap w1 w.heap.size mc xs.toArray 2 _ hw0)
  have hgb2 : RowKit.Hid (w1.grownBy (w1.setRow w.heap.size xs.toArray) (some w.heap.size)) := Lib.hid ⟨rfl, rfl, rfl, by simp [World.setRow], fun k _ hk => setRow_other w1 w.heap.size k _ (by intro e; exact hk (by rw [e]))⟩
  have HB := Lib.hid hb0
  have HS2 := Lib.hid (show (w1.setRow w.heap.size xs.toArray).heap.size = w.heap.size + 1 by rw [setRow_size, hs1])
  generalize World.setRow w1 _ _ = w2 at hrun hg2 hgb2 HS2
  clear hw0 hb0 h0q hF hs1
  go_wp2_with fail
  go_ret
  exact ⟨rfl, hg2.out, HB.out.trans (gr_below hgb2.out HB.out.size (fun k e => by injection e; omega)), HS2.out⟩
set_option maxRecDepth 20000 in
set_option maxHeartbeats 4000000 in
theorem copied_D1_none (A : Option Addr) (cap : Nat) (w : World) :
    Calls Tryz.prog 115 #[.slice A 0 cap] w fun e w' => e = .returned (.slice (some ⟨w.heap.size, 0, none⟩) 0 0) ∧ CellsAt w' w.heap.size 2 #[] ∧ Below w.heap.size w w' ∧ w'.heap.size = w.heap.size + 1 := by
  have hmk := fun u => make_D1 0 (by decide) u
  simp only [Nat.zero_mul, Int.ofNat_zero] at hmk
  have hz : madeCells (Value.int .i64 0).cells 0 = #[] := by unfold madeCells; simp
  rw [hz] at hmk
  have hw0 := Lib.hid (CellsAt.new w 2 #[])
  have hb0 := Lib.hid (box_below w (.cells #[] 2))
  have HS2 := Lib.hid (show (w.alloc (.cells #[] 2)).heap.size = w.heap.size + 1 by simp)
  have hrun := fun (d : Option Addr) (dc : Nat) (u : World) => run_copy_noneS (P := Tryz.prog) u 24 24 3 2 d A dc cap 1 Tryz.underlying24 (by obtain ⟨i, hi, _, hs, _⟩ := info_D1; rw [hi]; simp [hs])
  go_enter Tryz.func115, Tryz.ntmps115
  go_wp2_with fail
  go_ret
  exact ⟨rfl, hw0.out, hb0.out, HS2.out⟩
theorem info_D8 : ∃ i, Tryz.prog.info? 80 = some i ∧ i.zero = some (Value.agg #[.int .i64 0, .int .i64 0, .int .i64 0, .int .i64 0, .int .i64 0, .int .i64 0, .int .i64 0, .bool false]) ∧ i.size = 8 ∧ i.bytes ≤ 64 := by
  obtain ⟨i, hi, hzz⟩ := Option.map_eq_some_iff.1 info_tru
  simp only [Prod.mk.injEq] at hzz
  exact ⟨i, hi, hzz.1, hzz.2.1, by omega⟩
theorem make_D8 (n : Nat) (hn : n ≤ 1048576) (w : World) :
    (Instr.makeSlice 27 (.int .i64 (n : Int)) (.int .i64 (n : Int))).run Tryz.prog w = .ok (.slice (some ⟨w.heap.size, 0, none⟩) n n) (w.alloc (.cells (madeCells (Value.agg #[.int .i64 0, .int .i64 0, .int .i64 0, .int .i64 0, .int .i64 0, .int .i64 0, .int .i64 0, .bool false]).cells (n * 8)) 80)) := by
  obtain ⟨i, hi, hz, hs, hb⟩ := info_D8
  have hr := run_make (P := Tryz.prog) w 27 80 i _ Tryz.underlying27 hi hz .i64 .i64 n n (by omega) (Int.le_refl _) (by have := Nat.mul_le_mul hn hb; have e := Nat.mul_comm n i.bytes; omega) (by omega)
  rw [hs] at hr
  simpa using hr
set_option maxRecDepth 20000 in
set_option maxHeartbeats 4000000 in
theorem copied_D8 (q off n cap : Nat) (xs : List Value) (w : World) (h8 : n ≤ 1048576) (hl : xs.length = n * 8) (h1 : ∀ v ∈ xs, v.oneCell' = true) (hq : q < w.heap.size) (hsrc : ∀ j v, xs[j]? = some v → w.cell? (Addr.add ⟨q, off, none⟩ j) = some v) :
    Calls Tryz.prog 113 #[.slice (some ⟨q, off, none⟩) n cap] w fun e w' => e = .returned (.slice (some ⟨w.heap.size, 0, none⟩) n n) ∧ CellsAt w' w.heap.size 80 xs.toArray ∧ Below w.heap.size w w' ∧ w'.heap.size = w.heap.size + 1 := by
  have hmk := fun u => make_D8 n h8 u
  have hw0 : CellsAt (w.alloc (.cells (madeCells (Value.agg #[.int .i64 0, .int .i64 0, .int .i64 0, .int .i64 0, .int .i64 0, .int .i64 0, .int .i64 0, .bool false]).cells (n * 8)) 80)) w.heap.size 80 (madeCells (Value.agg #[.int .i64 0, .int .i64 0, .int .i64 0, .int .i64 0, .int .i64 0, .int .i64 0, .int .i64 0, .bool false]).cells (n * 8)) := CellsAt.new w _ _
  have hb0 := box_below w (.cells (madeCells (Value.agg #[.int .i64 0, .int .i64 0, .int .i64 0, .int .i64 0, .int .i64 0, .int .i64 0, .int .i64 0, .bool false]).cells (n * 8)) 80)
  have hsz : (madeCells (Value.agg #[.int .i64 0, .int .i64 0, .int .i64 0, .int .i64 0, .int .i64 0, .int .i64 0, .int .i64 0, .bool false]).cells (n * 8)).size = n * 8 := size_madeCells _ _
  have hnw : ∀ j v, xs[j]? = some v → (w.alloc (.cells (madeCells (Value.agg #[.int .i64 0, .int .i64 0, .int .i64 0, .int .i64 0, .int .i64 0, .int .i64 0, .int .i64 0, .bool false]).cells (n * 8)) 80)).cell? (Addr.add ⟨q, off, none⟩ j) = some v := fun j v hv => by rw [Addr.add_mid]; exact (hb0.cell (p := ⟨q, off + j, none⟩) hq).trans (by rw [← Addr.add_mid]; exact hsrc j v hv)
  have H0 := Lib.hid hnw
  have W0 := Lib.hid hw0
  have B0 := Lib.hid hb0
  have SZ0 := Lib.hid hsz
  have FL := Lib.hid hl
  have F1 := Lib.hid h1
  clear hsrc hw0 hb0 hsz hnw hl h1 hq
  generalize madeCells (Value.agg #[.int .i64 0, .int .i64 0, .int .i64 0, .int .i64 0, .int .i64 0, .int .i64 0, .int .i64 0, .bool false]).cells (n * 8) = mc at hmk W0 B0 SZ0 H0
  have HL8 := Lib.hid h8
  have hn0 : (0 : Int) ≤ n := by omega
  have hle : (n : Int) ≤ 1048576 := by omega
  clear h8
  go_enter Tryz.func113, Tryz.ntmps113
  go_upto_region 2 with fail
  have hw0 := W0.out
  have hb0 := B0.out
  have h0q := H0.out
  clear hmk W0 B0 H0
  have hs1 : (w.alloc (.cells mc 80)).heap.size = w.heap.size + 1 := by simp
  generalize World.alloc _ _ = w1 at hw0 hb0 h0q hs1 ⊢
  have hF : 0 + xs.length ≤ mc.size := by rw [FL.out, SZ0.out]; omega
  have hrun := run_copy_rowS (P := Tryz.prog) w1 27 27 3 80 w.heap.size 0 n n ⟨q, off, none⟩ n cap mc 80 xs 8 Tryz.underlying27 (by obtain ⟨i, hi, _, hs, _⟩ := info_D8; rw [hi]; simp [hs]) hw0 (by rw [FL.out, show Nat.min n n = n from Nat.min_self n]) h0q hF F1.out
  rw [show Nat.min n n = n from Nat.min_self n, take0_drop mc.toList xs (by rw [Array.length_toList, SZ0.out, FL.out]; omega)] at hrun
  have hg2 := Lib.hid (setRow_heap w1 w.heap.size mc xs.toArray 80 _ hw0)
  have hgb2 : RowKit.Hid (w1.grownBy (w1.setRow w.heap.size xs.toArray) (some w.heap.size)) := Lib.hid ⟨rfl, rfl, rfl, by simp [World.setRow], fun k _ hk => setRow_other w1 w.heap.size k _ (by intro e; exact hk (by rw [e]))⟩
  have HB := Lib.hid hb0
  have HS2 := Lib.hid (show (w1.setRow w.heap.size xs.toArray).heap.size = w.heap.size + 1 by rw [setRow_size, hs1])
  generalize World.setRow w1 _ _ = w2 at hrun hg2 hgb2 HS2
  clear hw0 hb0 h0q hF hs1
  go_wp2_with fail
  go_ret
  exact ⟨rfl, hg2.out, HB.out.trans (gr_below hgb2.out HB.out.size (fun k e => by injection e; omega)), HS2.out⟩
set_option maxRecDepth 20000 in
set_option maxHeartbeats 4000000 in
theorem copied_D8_none (A : Option Addr) (cap : Nat) (w : World) :
    Calls Tryz.prog 113 #[.slice A 0 cap] w fun e w' => e = .returned (.slice (some ⟨w.heap.size, 0, none⟩) 0 0) ∧ CellsAt w' w.heap.size 80 #[] ∧ Below w.heap.size w w' ∧ w'.heap.size = w.heap.size + 1 := by
  have hmk := fun u => make_D8 0 (by decide) u
  simp only [Nat.zero_mul, Int.ofNat_zero] at hmk
  have hz : madeCells (Value.agg #[.int .i64 0, .int .i64 0, .int .i64 0, .int .i64 0, .int .i64 0, .int .i64 0, .int .i64 0, .bool false]).cells 0 = #[] := by unfold madeCells; simp
  rw [hz] at hmk
  have hw0 := Lib.hid (CellsAt.new w 80 #[])
  have hb0 := Lib.hid (box_below w (.cells #[] 80))
  have HS2 := Lib.hid (show (w.alloc (.cells #[] 80)).heap.size = w.heap.size + 1 by simp)
  have hrun := fun (d : Option Addr) (dc : Nat) (u : World) => run_copy_noneS (P := Tryz.prog) u 27 27 3 80 d A dc cap 8 Tryz.underlying27 (by obtain ⟨i, hi, _, hs, _⟩ := info_D8; rw [hi]; simp [hs])
  go_enter Tryz.func113, Tryz.ntmps113
  go_wp2_with fail
  go_ret
  exact ⟨rfl, hw0.out, hb0.out, HS2.out⟩
theorem info_D2 : ∃ i, Tryz.prog.info? 112 = some i ∧ i.zero = some (Value.agg #[.int .i64 0, .int .i64 0]) ∧ i.size = 2 ∧ i.bytes ≤ 64 := by
  obtain ⟨i, hi, hzz⟩ := Option.map_eq_some_iff.1 info_cel
  simp only [Prod.mk.injEq] at hzz
  exact ⟨i, hi, hzz.1, hzz.2.1, by omega⟩
theorem make_D2 (n : Nat) (hn : n ≤ 1048576) (w : World) :
    (Instr.makeSlice 28 (.int .i64 (n : Int)) (.int .i64 (n : Int))).run Tryz.prog w = .ok (.slice (some ⟨w.heap.size, 0, none⟩) n n) (w.alloc (.cells (madeCells (Value.agg #[.int .i64 0, .int .i64 0]).cells (n * 2)) 112)) := by
  obtain ⟨i, hi, hz, hs, hb⟩ := info_D2
  have hr := run_make (P := Tryz.prog) w 28 112 i _ Tryz.underlying28 hi hz .i64 .i64 n n (by omega) (Int.le_refl _) (by have := Nat.mul_le_mul hn hb; have e := Nat.mul_comm n i.bytes; omega) (by omega)
  rw [hs] at hr
  simpa using hr
set_option maxRecDepth 20000 in
set_option maxHeartbeats 4000000 in
theorem copied_D2 (q off n cap : Nat) (xs : List Value) (w : World) (h8 : n ≤ 1048576) (hl : xs.length = n * 2) (h1 : ∀ v ∈ xs, v.oneCell' = true) (hq : q < w.heap.size) (hsrc : ∀ j v, xs[j]? = some v → w.cell? (Addr.add ⟨q, off, none⟩ j) = some v) :
    Calls Tryz.prog 112 #[.slice (some ⟨q, off, none⟩) n cap] w fun e w' => e = .returned (.slice (some ⟨w.heap.size, 0, none⟩) n n) ∧ CellsAt w' w.heap.size 112 xs.toArray ∧ Below w.heap.size w w' ∧ w'.heap.size = w.heap.size + 1 := by
  have hmk := fun u => make_D2 n h8 u
  have hw0 : CellsAt (w.alloc (.cells (madeCells (Value.agg #[.int .i64 0, .int .i64 0]).cells (n * 2)) 112)) w.heap.size 112 (madeCells (Value.agg #[.int .i64 0, .int .i64 0]).cells (n * 2)) := CellsAt.new w _ _
  have hb0 := box_below w (.cells (madeCells (Value.agg #[.int .i64 0, .int .i64 0]).cells (n * 2)) 112)
  have hsz : (madeCells (Value.agg #[.int .i64 0, .int .i64 0]).cells (n * 2)).size = n * 2 := size_madeCells _ _
  have hnw : ∀ j v, xs[j]? = some v → (w.alloc (.cells (madeCells (Value.agg #[.int .i64 0, .int .i64 0]).cells (n * 2)) 112)).cell? (Addr.add ⟨q, off, none⟩ j) = some v := fun j v hv => by rw [Addr.add_mid]; exact (hb0.cell (p := ⟨q, off + j, none⟩) hq).trans (by rw [← Addr.add_mid]; exact hsrc j v hv)
  have H0 := Lib.hid hnw
  have W0 := Lib.hid hw0
  have B0 := Lib.hid hb0
  have SZ0 := Lib.hid hsz
  have FL := Lib.hid hl
  have F1 := Lib.hid h1
  clear hsrc hw0 hb0 hsz hnw hl h1 hq
  generalize madeCells (Value.agg #[.int .i64 0, .int .i64 0]).cells (n * 2) = mc at hmk W0 B0 SZ0 H0
  have HL8 := Lib.hid h8
  have hn0 : (0 : Int) ≤ n := by omega
  have hle : (n : Int) ≤ 1048576 := by omega
  clear h8
  go_enter Tryz.func112, Tryz.ntmps112
  go_upto_region 2 with fail
  have hw0 := W0.out
  have hb0 := B0.out
  have h0q := H0.out
  clear hmk W0 B0 H0
  have hs1 : (w.alloc (.cells mc 112)).heap.size = w.heap.size + 1 := by simp
  generalize World.alloc _ _ = w1 at hw0 hb0 h0q hs1 ⊢
  have hF : 0 + xs.length ≤ mc.size := by rw [FL.out, SZ0.out]; omega
  have hrun := run_copy_rowS (P := Tryz.prog) w1 28 28 3 112 w.heap.size 0 n n ⟨q, off, none⟩ n cap mc 112 xs 2 Tryz.underlying28 (by obtain ⟨i, hi, _, hs, _⟩ := info_D2; rw [hi]; simp [hs]) hw0 (by rw [FL.out, show Nat.min n n = n from Nat.min_self n]) h0q hF F1.out
  rw [show Nat.min n n = n from Nat.min_self n, take0_drop mc.toList xs (by rw [Array.length_toList, SZ0.out, FL.out]; omega)] at hrun
  have hg2 := Lib.hid (setRow_heap w1 w.heap.size mc xs.toArray 112 _ hw0)
  have hgb2 : RowKit.Hid (w1.grownBy (w1.setRow w.heap.size xs.toArray) (some w.heap.size)) := Lib.hid ⟨rfl, rfl, rfl, by simp [World.setRow], fun k _ hk => setRow_other w1 w.heap.size k _ (by intro e; exact hk (by rw [e]))⟩
  have HB := Lib.hid hb0
  have HS2 := Lib.hid (show (w1.setRow w.heap.size xs.toArray).heap.size = w.heap.size + 1 by rw [setRow_size, hs1])
  generalize World.setRow w1 _ _ = w2 at hrun hg2 hgb2 HS2
  clear hw0 hb0 h0q hF hs1
  go_wp2_with fail
  go_ret
  exact ⟨rfl, hg2.out, HB.out.trans (gr_below hgb2.out HB.out.size (fun k e => by injection e; omega)), HS2.out⟩
set_option maxRecDepth 20000 in
set_option maxHeartbeats 4000000 in
theorem copied_D2_none (A : Option Addr) (cap : Nat) (w : World) :
    Calls Tryz.prog 112 #[.slice A 0 cap] w fun e w' => e = .returned (.slice (some ⟨w.heap.size, 0, none⟩) 0 0) ∧ CellsAt w' w.heap.size 112 #[] ∧ Below w.heap.size w w' ∧ w'.heap.size = w.heap.size + 1 := by
  have hmk := fun u => make_D2 0 (by decide) u
  simp only [Nat.zero_mul, Int.ofNat_zero] at hmk
  have hz : madeCells (Value.agg #[.int .i64 0, .int .i64 0]).cells 0 = #[] := by unfold madeCells; simp
  rw [hz] at hmk
  have hw0 := Lib.hid (CellsAt.new w 112 #[])
  have hb0 := Lib.hid (box_below w (.cells #[] 112))
  have HS2 := Lib.hid (show (w.alloc (.cells #[] 112)).heap.size = w.heap.size + 1 by simp)
  have hrun := fun (d : Option Addr) (dc : Nat) (u : World) => run_copy_noneS (P := Tryz.prog) u 28 28 3 112 d A dc cap 2 Tryz.underlying28 (by obtain ⟨i, hi, _, hs, _⟩ := info_D2; rw [hi]; simp [hs])
  go_enter Tryz.func112, Tryz.ntmps112
  go_wp2_with fail
  go_ret
  exact ⟨rfl, hw0.out, hb0.out, HS2.out⟩
theorem info_D4 : ∃ i, Tryz.prog.info? 77 = some i ∧ i.zero = some (Value.agg #[.int .i64 0, .slice none 0 0, .int .i64 0, .slice none 0 0]) ∧ i.size = 4 ∧ i.bytes ≤ 64 := by
  obtain ⟨i, hi, hzz⟩ := Option.map_eq_some_iff.1 info_slot
  simp only [Prod.mk.injEq] at hzz
  exact ⟨i, hi, hzz.1, hzz.2.1, by omega⟩
theorem make_D4 (n : Nat) (hn : n ≤ 1048576) (w : World) :
    (Instr.makeSlice 29 (.int .i64 (n : Int)) (.int .i64 (n : Int))).run Tryz.prog w = .ok (.slice (some ⟨w.heap.size, 0, none⟩) n n) (w.alloc (.cells (madeCells (Value.agg #[.int .i64 0, .slice none 0 0, .int .i64 0, .slice none 0 0]).cells (n * 4)) 77)) := by
  obtain ⟨i, hi, hz, hs, hb⟩ := info_D4
  have hr := run_make (P := Tryz.prog) w 29 77 i _ Tryz.underlying29 hi hz .i64 .i64 n n (by omega) (Int.le_refl _) (by have := Nat.mul_le_mul hn hb; have e := Nat.mul_comm n i.bytes; omega) (by omega)
  rw [hs] at hr
  simpa using hr
set_option maxRecDepth 20000 in
set_option maxHeartbeats 4000000 in
theorem copied_D4 (q off n cap : Nat) (xs : List Value) (w : World) (h8 : n ≤ 1048576) (hl : xs.length = n * 4) (h1 : ∀ v ∈ xs, v.oneCell' = true) (hq : q < w.heap.size) (hsrc : ∀ j v, xs[j]? = some v → w.cell? (Addr.add ⟨q, off, none⟩ j) = some v) :
    Calls Tryz.prog 116 #[.slice (some ⟨q, off, none⟩) n cap] w fun e w' => e = .returned (.slice (some ⟨w.heap.size, 0, none⟩) n n) ∧ CellsAt w' w.heap.size 77 xs.toArray ∧ Below w.heap.size w w' ∧ w'.heap.size = w.heap.size + 1 := by
  have hmk := fun u => make_D4 n h8 u
  have hw0 : CellsAt (w.alloc (.cells (madeCells (Value.agg #[.int .i64 0, .slice none 0 0, .int .i64 0, .slice none 0 0]).cells (n * 4)) 77)) w.heap.size 77 (madeCells (Value.agg #[.int .i64 0, .slice none 0 0, .int .i64 0, .slice none 0 0]).cells (n * 4)) := CellsAt.new w _ _
  have hb0 := box_below w (.cells (madeCells (Value.agg #[.int .i64 0, .slice none 0 0, .int .i64 0, .slice none 0 0]).cells (n * 4)) 77)
  have hsz : (madeCells (Value.agg #[.int .i64 0, .slice none 0 0, .int .i64 0, .slice none 0 0]).cells (n * 4)).size = n * 4 := size_madeCells _ _
  have hnw : ∀ j v, xs[j]? = some v → (w.alloc (.cells (madeCells (Value.agg #[.int .i64 0, .slice none 0 0, .int .i64 0, .slice none 0 0]).cells (n * 4)) 77)).cell? (Addr.add ⟨q, off, none⟩ j) = some v := fun j v hv => by rw [Addr.add_mid]; exact (hb0.cell (p := ⟨q, off + j, none⟩) hq).trans (by rw [← Addr.add_mid]; exact hsrc j v hv)
  have H0 := Lib.hid hnw
  have W0 := Lib.hid hw0
  have B0 := Lib.hid hb0
  have SZ0 := Lib.hid hsz
  have FL := Lib.hid hl
  have F1 := Lib.hid h1
  clear hsrc hw0 hb0 hsz hnw hl h1 hq
  generalize madeCells (Value.agg #[.int .i64 0, .slice none 0 0, .int .i64 0, .slice none 0 0]).cells (n * 4) = mc at hmk W0 B0 SZ0 H0
  have HL8 := Lib.hid h8
  have hn0 : (0 : Int) ≤ n := by omega
  have hle : (n : Int) ≤ 1048576 := by omega
  clear h8
  go_enter Tryz.func116, Tryz.ntmps116
  go_upto_region 2 with fail
  have hw0 := W0.out
  have hb0 := B0.out
  have h0q := H0.out
  clear hmk W0 B0 H0
  have hs1 : (w.alloc (.cells mc 77)).heap.size = w.heap.size + 1 := by simp
  generalize World.alloc _ _ = w1 at hw0 hb0 h0q hs1 ⊢
  have hF : 0 + xs.length ≤ mc.size := by rw [FL.out, SZ0.out]; omega
  have hrun := run_copy_rowS (P := Tryz.prog) w1 29 29 3 77 w.heap.size 0 n n ⟨q, off, none⟩ n cap mc 77 xs 4 Tryz.underlying29 (by obtain ⟨i, hi, _, hs, _⟩ := info_D4; rw [hi]; simp [hs]) hw0 (by rw [FL.out, show Nat.min n n = n from Nat.min_self n]) h0q hF F1.out
  rw [show Nat.min n n = n from Nat.min_self n, take0_drop mc.toList xs (by rw [Array.length_toList, SZ0.out, FL.out]; omega)] at hrun
  have hg2 := Lib.hid (setRow_heap w1 w.heap.size mc xs.toArray 77 _ hw0)
  have hgb2 : RowKit.Hid (w1.grownBy (w1.setRow w.heap.size xs.toArray) (some w.heap.size)) := Lib.hid ⟨rfl, rfl, rfl, by simp [World.setRow], fun k _ hk => setRow_other w1 w.heap.size k _ (by intro e; exact hk (by rw [e]))⟩
  have HB := Lib.hid hb0
  have HS2 := Lib.hid (show (w1.setRow w.heap.size xs.toArray).heap.size = w.heap.size + 1 by rw [setRow_size, hs1])
  generalize World.setRow w1 _ _ = w2 at hrun hg2 hgb2 HS2
  clear hw0 hb0 h0q hF hs1
  go_wp2_with fail
  go_ret
  exact ⟨rfl, hg2.out, HB.out.trans (gr_below hgb2.out HB.out.size (fun k e => by injection e; omega)), HS2.out⟩
theorem row_whole {w : World} {base g n size : Nat} {t : TypeId} {xs : List Value} (hg : CellsAt w g t xs.toArray) (hb : base ≤ g) (hl : xs.length = n * size) (h8 : n ≤ maxLen) : w.ownsRow base t size (.slice (some ⟨g, 0, none⟩) n n) n xs :=
  ⟨hl, .inr ⟨g, n, xs.toArray, rfl, hb, hg, Nat.le_refl _, h8, by simp [hl], by simp [← hl]⟩⟩
theorem copied_D8_at (A : Option Addr) (L : List Tru) (cap : Nat) (w : World) (h8 : L.length ≤ 1048576) (hA : Trs w w.heap.size A L) :
    Calls Tryz.prog 113 #[.slice A L.length cap] w fun e w' => e = .returned (.slice (some ⟨w.heap.size, 0, none⟩) L.length L.length) ∧ CellsAt w' w.heap.size 80 (flatS truV L).toArray ∧ Below w.heap.size w w' ∧ w'.heap.size = w.heap.size + 1 := by
  rcases Nat.eq_zero_or_pos L.length with h0 | h0
  · have hx : flatS truV L = [] := List.length_eq_zero_iff.1 (by rw [flatS_length truV_len, h0])
    rw [h0, hx]
    exact copied_D8_none A cap w
  · obtain ⟨q, off, rfl, hq, _⟩ := hA 0 h0
    refine copied_D8 q off L.length cap (flatS truV L) w h8 (flatS_length truV_len) (truV_one L) hq ?_
    intro j v hv
    obtain ⟨ad, e, hc⟩ := hA.news truV_len (by omega) j v hv
    injection e with e
    rw [e]; exact hc
theorem copied_D2_at (A : Option Addr) (L : List Ce) (cap : Nat) (w : World) (h8 : L.length ≤ 1048576) (hA : Cls w w.heap.size A L) :
    Calls Tryz.prog 112 #[.slice A L.length cap] w fun e w' => e = .returned (.slice (some ⟨w.heap.size, 0, none⟩) L.length L.length) ∧ CellsAt w' w.heap.size 112 (flatS ceV L).toArray ∧ Below w.heap.size w w' ∧ w'.heap.size = w.heap.size + 1 := by
  rcases Nat.eq_zero_or_pos L.length with h0 | h0
  · have hx : flatS ceV L = [] := List.length_eq_zero_iff.1 (by rw [flatS_length ceV_len, h0])
    rw [h0, hx]
    exact copied_D2_none A cap w
  · obtain ⟨q, off, rfl, hq, _⟩ := hA 0 h0
    refine copied_D2 q off L.length cap (flatS ceV L) w h8 (flatS_length ceV_len) (ceV_one L) hq ?_
    intro j v hv
    obtain ⟨ad, e, hc⟩ := hA.news ceV_len (by omega) j v hv
    injection e with e
    rw [e]; exact hc
theorem copied_D1_at (A : Option Addr) (l : List Int) (cap : Nat) (w : World) (h8 : l.length ≤ 1048576) (hA : Ints w .i64 w.heap.size A l) :
    Calls Tryz.prog 115 #[.slice A l.length cap] w fun e w' => e = .returned (.slice (some ⟨w.heap.size, 0, none⟩) l.length l.length) ∧ CellsAt w' w.heap.size 2 (l.map (Value.int .i64)).toArray ∧ Below w.heap.size w w' ∧ w'.heap.size = w.heap.size + 1 := by
  rcases Nat.eq_zero_or_pos l.length with h0 | h0
  · have hx : l = [] := List.length_eq_zero_iff.1 h0
    subst hx
    exact copied_D1_none A cap w
  · obtain ⟨q, off, rfl, hq, _⟩ := hA 0 h0
    refine copied_D1 q off l.length cap (l.map (Value.int .i64)) w h8 (by simp) (by intro v hv; obtain ⟨i, _, rfl⟩ := List.mem_map.1 hv; rfl) hq ?_
    intro j v hv
    rw [List.getElem?_map] at hv
    cases hj : l[j]? with
    | none => rw [hj] at hv; cases hv
    | some i =>
      rw [hj] at hv
      simp only [Option.map_some, Option.some.injEq] at hv
      subst hv
      have hlt := (List.getElem?_eq_some_iff.1 hj).1
      obtain ⟨q', off', e, _, hc⟩ := hA j hlt
      simp only [Option.some.injEq, Addr.mk.injEq] at e
      obtain ⟨rfl, rfl, _⟩ := e
      rw [Addr.add_mid, hc, List.getD_eq_getElem?_getD, hj]; rfl
theorem copied_D4_two (b off cap : Nat) (v0 v1 v2 v3 v4 v5 v6 v7 : Value) (w : World) (h1 : (#[v0, v1, v2, v3, v4, v5, v6, v7] : Array Value).all (·.oneCell') = true) (hb : b < w.heap.size) (h0 : w.cell? ⟨b, off, none⟩ = some v0) (g1 : w.cell? ⟨b, off + 1, none⟩ = some v1) (g2 : w.cell? ⟨b, off + 2, none⟩ = some v2) (g3 : w.cell? ⟨b, off + 3, none⟩ = some v3)
    (g4 : w.cell? ⟨b, off + 4, none⟩ = some v4) (g5 : w.cell? ⟨b, off + 5, none⟩ = some v5) (g6 : w.cell? ⟨b, off + 6, none⟩ = some v6) (g7 : w.cell? ⟨b, off + 7, none⟩ = some v7) :
    Calls Tryz.prog 116 #[.slice (some ⟨b, off, none⟩) 2 cap] w fun e w' => e = .returned (.slice (some ⟨w.heap.size, 0, none⟩) 2 2) ∧ CellsAt w' w.heap.size 77 #[v0, v1, v2, v3, v4, v5, v6, v7] ∧ Below w.heap.size w w' ∧ w'.heap.size = w.heap.size + 1 := by
  refine copied_D4 b off 2 cap [v0, v1, v2, v3, v4, v5, v6, v7] w (by decide) rfl (by simpa using h1) hb ?_
  intro j v hv
  rw [Addr.add_mid]
  have hj : j < 8 := (List.getElem?_eq_some_iff.1 hv).1
  rcases (by omega : j = 0 ∨ j = 1 ∨ j = 2 ∨ j = 3 ∨ j = 4 ∨ j = 5 ∨ j = 6 ∨ j = 7) with rfl | rfl | rfl | rfl | rfl | rfl | rfl | rfl <;> simp only [List.getElem?_cons_zero, List.getElem?_cons_succ, Option.some.injEq] at hv <;> subst hv <;> assumption
end Go.Proofs.YtgaecedhkbneaaaGreatDoor.Mx

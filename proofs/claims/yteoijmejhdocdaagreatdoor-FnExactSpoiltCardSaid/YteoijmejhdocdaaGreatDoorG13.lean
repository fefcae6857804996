import Derived.Test.YteoijmejhdocdaaGreatDoorG03
import Derived.Test.YteoijmejhdocdaaGreatDoorG07
import Derived.Test.YteoijmejhdocdaaGreatDoorG10
import Derived.Test.YteoijmejhdocdaaGreatDoorG12
import Derived.Test.YteoijmejhdocdaaGreatDoorG05
import Derived.Deep.RegionHeld3
import Derived.Test.YteoijmejhdocdaaGreatDoorG02
import Derived.Test.YteoijmejhdocdaaGreatDoorG01
import Derived.StillTail
namespace Go.Proofs.YteoijmejhdocdaaGreatDoor.Mx
open Go.ChangeShapes Go.WideShapes Go.ChangeAt Go.RowKit
set_option linter.unusedVariables false
theorem run_copy_noneS {P : Program} (w : World) (dT sT ty elem : TypeId) (d a : Option Addr) (dCap sCap s : Nat) (hu : P.underlying dT = some (.slice elem)) (hs : (P.info? elem).map (·.size) = some s) :
    (Builtin.copy_ #[dT, sT] ty #[.slice d 0 dCap, .slice a 0 sCap]).run P w = .ok (goInt 0) w := by
  cases hq : P.info? elem with
  | none => simp [hq] at hs
  | some i =>
    have hl : ∀ (x : Addr), (loadCells x 0).run P w = .ok #[] w := fun x => by simpa using run_loadCells_list (P := P) w x [] (by simp)
    cases d <;> cases a <;> simp [Builtin.copy_, run_underlying hu, Builtin.lenOf, Builtin.firstCells, sizeOf, typeInfo, hq, storeCells, hl]
theorem take0_drop {α : Type} (L : List α) (cs : List α) (h : L.length ≤ cs.length) : (L.take 0 ++ cs ++ L.drop (0 + cs.length)) = cs := by
  rw [List.drop_eq_nil_of_le (by omega)]; simp
theorem info_int64 : (Tryz.prog.info? 2).map (fun i => (i.zero, i.size, i.bytes)) = some (some (.int .i64 0), 1, 8) := by kernel_rfl
theorem info_D1 : ∃ i, Tryz.prog.info? 2 = some i ∧ i.zero = some (Value.int .i64 0) ∧ i.size = 1 ∧ i.bytes ≤ 64 := by
  obtain ⟨i, hi, hzz⟩ := Option.map_eq_some_iff.1 info_int64
  simp only [Prod.mk.injEq] at hzz
  exact ⟨i, hi, hzz.1, hzz.2.1, by omega⟩
theorem make_D1 (n : Nat) (hn : n ≤ 1048576) (w : World) :
    (Instr.makeSlice 24 (.int .i64 (n : Int)) (.int .i64 (n : Int))).run Tryz.prog w = .ok (.slice (some ⟨w.heap.size, 0, none⟩) n n) (w.alloc (.cells (madeCells (Value.int .i64 0).cells (n * 1)) 2)) := by
  obtain ⟨i, hi, hz, hs, hb⟩ := info_D1
  have hr := run_make (P := Tryz.prog) w 24 2 i _ Tryz.underlying24 hi hz .i64 .i64 n n (by omega) (Int.le_refl _) (by have := Nat.mul_le_mul hn hb; have e := Nat.mul_comm n i.bytes; omega) (by omega)
  rw [hs] at hr
  simpa using hr
set_option maxRecDepth 20000 in
set_option maxHeartbeats 4000000 in
theorem copied_D1 (q off n cap : Nat) (xs : List Value) (w : World) (h8 : n ≤ 1048576) (hl : xs.length = n * 1) (h1 : ∀ v ∈ xs, v.oneCell' = true) (hq : q < w.heap.size) (hsrc : ∀ j v, xs[j]? = some v → w.cell? (Addr.add ⟨q, off, none⟩ j) = some v) :
    Calls Tryz.prog 143 #[.slice (some ⟨q, off, none⟩) n cap] w fun e w' => e = .returned (.slice (some ⟨w.heap.size, 0, none⟩) n n) ∧ CellsAt w' w.heap.size 2 xs.toArray ∧ Below w.heap.size w w' ∧ w'.heap.size = w.heap.size + 1 := by
  have hmk := fun u => make_D1 n h8 u
  have hw0 : CellsAt (w.alloc (.cells (madeCells (Value.int .i64 0).cells (n * 1)) 2)) w.heap.size 2 (madeCells (Value.int .i64 0).cells (n * 1)) := CellsAt.new w _ _
  have hb0 := box_below w (.cells (madeCells (Value.int .i64 0).cells (n * 1)) 2)
  have hsz : (madeCells (Value.int .i64 0).cells (n * 1)).size = n * 1 := size_madeCells _ _
  have hnw : ∀ j v, xs[j]? = some v → (w.alloc (.cells (madeCells (Value.int .i64 0).cells (n * 1)) 2)).cell? (Addr.add ⟨q, off, none⟩ j) = some v := fun j v hv => by rw [Addr.add_mid]; exact (hb0.cell (p := ⟨q, off + j, none⟩) hq).trans (by rw [← Addr.add_mid]; exact hsrc j v hv)
  have H0 := Lib.hid hnw
  have W0 := Lib.hid hw0
  have B0 := Lib.hid hb0
  have SZ0 := Lib.hid hsz
  have FL := Lib.hid hl
  have F1 := Lib.hid h1
  clear hsrc hw0 hb0 hsz hnw hl h1 hq
  generalize madeCells (Value.int .i64 0).cells (n * 1) = mc at hmk W0 B0 SZ0 H0
  have HL8 := Lib.hid h8
  have hn0 : (0 : Int) ≤ n := by omega
  have hle : (n : Int) ≤ 1048576 := by omega
  clear h8
  go_enter Tryz.func143, Tryz.ntmps143
  go_upto_region 2 with fail
  have hw0 := W0.out
  have hb0 := B0.out
  have h0q := H0.out
  clear hmk W0 B0 H0
  have hs1 : (w.alloc (.cells mc 2)).heap.size = w.heap.size + 1 := by simp
  generalize World.alloc _ _ = w1 at hw0 hb0 h0q hs1 ⊢
  have hF : 0 + xs.length ≤ mc.size := by rw [FL.out, SZ0.out]; omega
  have hrun := run_copy_rowS (P := Tryz.prog) w1 24 24 3 2 w.heap.size 0 n n ⟨q, off, none⟩ n cap mc 2 xs 1 Tryz.underlying24 (by obtain ⟨i, hi, _, hs, _⟩ := info_D1; rw [hi]; simp [hs]) hw0 (by rw [FL.out, show Nat.min n n = n from Nat.min_self n]) h0q hF F1.out
  rw [show Nat.min n n = n from Nat.min_self n, take0_drop mc.toList xs (by rw [Array.length_toList, SZ0.out, FL.out]; omega)] at hrun
  have hg2 := Lib.hid (setRow_heap w1 w.heap.size mc xs.toArray 2 _ hw0)
  have hgb2 : RowKit.Hid (w1.grownBy (w1.setRow w.heap.size xs.toArray) (some w.heap.size)) := Lib.hid ⟨rfl, rfl, rfl, by simp [World.setRow], fun k _ hk => setRow_other w1 w.heap.size k _ (by intro e; exact hk (by rw [e]))⟩
  have HB := Lib.hid hb0
  have HS2 := Lib.hid (show (w1.setRow w.heap.size xs.toArray).heap.size = w.heap.size + 1 by rw [setRow_size, hs1])
  generalize World.setRow w1 _ _ = w2 at hrun hg2 hgb2 HS2
  clear hw0 hb0 h0q hF hs1
  go_wp2_with fail
  go_ret
  exact ⟨rfl, hg2.out, HB.out.trans (gr_below hgb2.out HB.out.size (fun k e => by injection e; omega)), HS2.out⟩
set_option maxRecDepth 20000 in
set_option maxHeartbeats 4000000 in
theorem copied_D1_none (A : Option Addr) (cap : Nat) (w : World) :
    Calls Tryz.prog 143 #[.slice A 0 cap] w fun e w' => e = .returned (.slice (some ⟨w.heap.size, 0, none⟩) 0 0) ∧ CellsAt w' w.heap.size 2 #[] ∧ Below w.heap.size w w' ∧ w'.heap.size = w.heap.size + 1 := by
  have hmk := fun u => make_D1 0 (by decide) u
  simp only [Nat.zero_mul, Int.ofNat_zero] at hmk
  have hz : madeCells (Value.int .i64 0).cells 0 = #[] := by unfold madeCells; simp
  rw [hz] at hmk
  have hw0 := Lib.hid (CellsAt.new w 2 #[])
  have hb0 := Lib.hid (box_below w (.cells #[] 2))
  have HS2 := Lib.hid (show (w.alloc (.cells #[] 2)).heap.size = w.heap.size + 1 by simp)
  have hrun := fun (d : Option Addr) (dc : Nat) (u : World) => run_copy_noneS (P := Tryz.prog) u 24 24 3 2 d A dc cap 1 Tryz.underlying24 (by obtain ⟨i, hi, _, hs, _⟩ := info_D1; rw [hi]; simp [hs])
  go_enter Tryz.func143, Tryz.ntmps143
  go_wp2_with fail
  go_ret
  exact ⟨rfl, hw0.out, hb0.out, HS2.out⟩
theorem info_D8 : ∃ i, Tryz.prog.info? 94 = some i ∧ i.zero = some (Value.agg #[.int .i64 0, .int .i64 0, .int .i64 0, .int .i64 0, .int .i64 0, .int .i64 0, .int .i64 0, .bool false]) ∧ i.size = 8 ∧ i.bytes ≤ 64 := by
  obtain ⟨i, hi, hzz⟩ := Option.map_eq_some_iff.1 info_tru
  simp only [Prod.mk.injEq] at hzz
  exact ⟨i, hi, hzz.1, hzz.2.1, by omega⟩
theorem make_D8 (n : Nat) (hn : n ≤ 1048576) (w : World) :
    (Instr.makeSlice 27 (.int .i64 (n : Int)) (.int .i64 (n : Int))).run Tryz.prog w = .ok (.slice (some ⟨w.heap.size, 0, none⟩) n n) (w.alloc (.cells (madeCells (Value.agg #[.int .i64 0, .int .i64 0, .int .i64 0, .int .i64 0, .int .i64 0, .int .i64 0, .int .i64 0, .bool false]).cells (n * 8)) 94)) := by
  obtain ⟨i, hi, hz, hs, hb⟩ := info_D8
  have hr := run_make (P := Tryz.prog) w 27 94 i _ Tryz.underlying27 hi hz .i64 .i64 n n (by omega) (Int.le_refl _) (by have := Nat.mul_le_mul hn hb; have e := Nat.mul_comm n i.bytes; omega) (by omega)
  rw [hs] at hr
  simpa using hr
set_option maxRecDepth 20000 in
set_option maxHeartbeats 4000000 in
theorem copied_D8 (q off n cap : Nat) (xs : List Value) (w : World) (h8 : n ≤ 1048576) (hl : xs.length = n * 8) (h1 : ∀ v ∈ xs, v.oneCell' = true) (hq : q < w.heap.size) (hsrc : ∀ j v, xs[j]? = some v → w.cell? (Addr.add ⟨q, off, none⟩ j) = some v) :
    Calls Tryz.prog 141 #[.slice (some ⟨q, off, none⟩) n cap] w fun e w' => e = .returned (.slice (some ⟨w.heap.size, 0, none⟩) n n) ∧ CellsAt w' w.heap.size 94 xs.toArray ∧ Below w.heap.size w w' ∧ w'.heap.size = w.heap.size + 1 := by
  have hmk := fun u => make_D8 n h8 u
  have hw0 : CellsAt (w.alloc (.cells (madeCells (Value.agg #[.int .i64 0, .int .i64 0, .int .i64 0, .int .i64 0, .int .i64 0, .int .i64 0, .int .i64 0, .bool false]).cells (n * 8)) 94)) w.heap.size 94 (madeCells (Value.agg #[.int .i64 0, .int .i64 0, .int .i64 0, .int .i64 0, .int .i64 0, .int .i64 0, .int .i64 0, .bool false]).cells (n * 8)) := CellsAt.new w _ _
  have hb0 := box_below w (.cells (madeCells (Value.agg #[.int .i64 0, .int .i64 0, .int .i64 0, .int .i64 0, .int .i64 0, .int .i64 0, .int .i64 0, .bool false]).cells (n * 8)) 94)
  have hsz : (madeCells (Value.agg #[.int .i64 0, .int .i64 0, .int .i64 0, .int .i64 0, .int .i64 0, .int .i64 0, .int .i64 0, .bool false]).cells (n * 8)).size = n * 8 := size_madeCells _ _
  have hnw : ∀ j v, xs[j]? = some v → (w.alloc (.cells (madeCells (Value.agg #[.int .i64 0, .int .i64 0, .int .i64 0, .int .i64 0, .int .i64 0, .int .i64 0, .int .i64 0, .bool false]).cells (n * 8)) 94)).cell? (Addr.add ⟨q, off, none⟩ j) = some v := fun j v hv => by rw [Addr.add_mid]; exact (hb0.cell (p := ⟨q, off + j, none⟩) hq).trans (by rw [← Addr.add_mid]; exact hsrc j v hv)
  have H0 := Lib.hid hnw
  have W0 := Lib.hid hw0
  have B0 := Lib.hid hb0
  have SZ0 := Lib.hid hsz
  have FL := Lib.hid hl
  have F1 := Lib.hid h1
  clear hsrc hw0 hb0 hsz hnw hl h1 hq
  generalize madeCells (Value.agg #[.int .i64 0, .int .i64 0, .int .i64 0, .int .i64 0, .int .i64 0, .int .i64 0, .int .i64 0, .bool false]).cells (n * 8) = mc at hmk W0 B0 SZ0 H0
  have HL8 := Lib.hid h8
  have hn0 : (0 : Int) ≤ n := by omega
  have hle : (n : Int) ≤ 1048576 := by omega
  clear h8
  go_enter Tryz.func141, Tryz.ntmps141
  go_upto_region 2 with fail
  have hw0 := W0.out
  have hb0 := B0.out
  have h0q := H0.out
  clear hmk W0 B0 H0
  have hs1 : (w.alloc (.cells mc 94)).heap.size = w.heap.size + 1 := by simp
  generalize World.alloc _ _ = w1 at hw0 hb0 h0q hs1 ⊢
  have hF : 0 + xs.length ≤ mc.size := by rw [FL.out, SZ0.out]; omega
  have hrun := run_copy_rowS (P := Tryz.prog) w1 27 27 3 94 w.heap.size 0 n n ⟨q, off, none⟩ n cap mc 94 xs 8 Tryz.underlying27 (by obtain ⟨i, hi, _, hs, _⟩ := info_D8; rw [hi]; simp [hs]) hw0 (by rw [FL.out, show Nat.min n n = n from Nat.min_self n]) h0q hF F1.out
  rw [show Nat.min n n = n from Nat.min_self n, take0_drop mc.toList xs (by rw [Array.length_toList, SZ0.out, FL.out]; omega)] at hrun
  have hg2 := Lib.hid (setRow_heap w1 w.heap.size mc xs.toArray 94 _ hw0)
  have hgb2 : RowKit.Hid (w1.grownBy (w1.setRow w.heap.size xs.toArray) (some w.heap.size)) := Lib.hid ⟨rfl, rfl, rfl, by simp [World.setRow], fun k _ hk => setRow_other w1 w.heap.size k _ (by intro e; exact hk (by rw [e]))⟩
  have HB := Lib.hid hb0
  have HS2 := Lib.hid (show (w1.setRow w.heap.size xs.toArray).heap.size = w.heap.size + 1 by rw [setRow_size, hs1])
  generalize World.setRow w1 _ _ = w2 at hrun hg2 hgb2 HS2
  clear hw0 hb0 h0q hF hs1
  go_wp2_with fail
  go_ret
  exact ⟨rfl, hg2.out, HB.out.trans (gr_below hgb2.out HB.out.size (fun k e => by injection e; omega)), HS2.out⟩
set_option maxRecDepth 20000 in
set_option maxHeartbeats 4000000 in
theorem copied_D8_none (A : Option Addr) (cap : Nat) (w : World) :
    Calls Tryz.prog 141 #[.slice A 0 cap] w fun e w' => e = .returned (.slice (some ⟨w.heap.size, 0, none⟩) 0 0) ∧ CellsAt w' w.heap.size 94 #[] ∧ Below w.heap.size w w' ∧ w'.heap.size = w.heap.size + 1 := by
  have hmk := fun u => make_D8 0 (by decide) u
  simp only [Nat.zero_mul, Int.ofNat_zero] at hmk
  have hz : madeCells (Value.agg #[.int .i64 0, .int .i64 0, .int .i64 0, .int .i64 0, .int .i64 0, .int .i64 0, .int .i64 0, .bool false]).cells 0 = #[] := by unfold madeCells; simp
  rw [hz] at hmk
  have hw0 := Lib.hid (CellsAt.new w 94 #[])
  have hb0 := Lib.hid (box_below w (.cells #[] 94))
  have HS2 := Lib.hid (show (w.alloc (.cells #[] 94)).heap.size = w.heap.size + 1 by simp)
  have hrun := fun (d : Option Addr) (dc : Nat) (u : World) => run_copy_noneS (P := Tryz.prog) u 27 27 3 94 d A dc cap 8 Tryz.underlying27 (by obtain ⟨i, hi, _, hs, _⟩ := info_D8; rw [hi]; simp [hs])
  go_enter Tryz.func141, Tryz.ntmps141
  go_wp2_with fail
  go_ret
  exact ⟨rfl, hw0.out, hb0.out, HS2.out⟩
theorem info_D2 : ∃ i, Tryz.prog.info? 118 = some i ∧ i.zero = some (Value.agg #[.int .i64 0, .int .i64 0]) ∧ i.size = 2 ∧ i.bytes ≤ 64 := by
  obtain ⟨i, hi, hzz⟩ := Option.map_eq_some_iff.1 info_cel
  simp only [Prod.mk.injEq] at hzz
  exact ⟨i, hi, hzz.1, hzz.2.1, by omega⟩
theorem make_D2 (n : Nat) (hn : n ≤ 1048576) (w : World) :
    (Instr.makeSlice 28 (.int .i64 (n : Int)) (.int .i64 (n : Int))).run Tryz.prog w = .ok (.slice (some ⟨w.heap.size, 0, none⟩) n n) (w.alloc (.cells (madeCells (Value.agg #[.int .i64 0, .int .i64 0]).cells (n * 2)) 118)) := by
  obtain ⟨i, hi, hz, hs, hb⟩ := info_D2
  have hr := run_make (P := Tryz.prog) w 28 118 i _ Tryz.underlying28 hi hz .i64 .i64 n n (by omega) (Int.le_refl _) (by have := Nat.mul_le_mul hn hb; have e := Nat.mul_comm n i.bytes; omega) (by omega)
  rw [hs] at hr
  simpa using hr
set_option maxRecDepth 20000 in
set_option maxHeartbeats 4000000 in
theorem copied_D2 (q off n cap : Nat) (xs : List Value) (w : World) (h8 : n ≤ 1048576) (hl : xs.length = n * 2) (h1 : ∀ v ∈ xs, v.oneCell' = true) (hq : q < w.heap.size) (hsrc : ∀ j v, xs[j]? = some v → w.cell? (Addr.add ⟨q, off, none⟩ j) = some v) :
    Calls Tryz.prog 140 #[.slice (some ⟨q, off, none⟩) n cap] w fun e w' => e = .returned (.slice (some ⟨w.heap.size, 0, none⟩) n n) ∧ CellsAt w' w.heap.size 118 xs.toArray ∧ Below w.heap.size w w' ∧ w'.heap.size = w.heap.size + 1 := by
  have hmk := fun u => make_D2 n h8 u
  have hw0 : CellsAt (w.alloc (.cells (madeCells (Value.agg #[.int .i64 0, .int .i64 0]).cells (n * 2)) 118)) w.heap.size 118 (madeCells (Value.agg #[.int .i64 0, .int .i64 0]).cells (n * 2)) := CellsAt.new w _ _
  have hb0 := box_below w (.cells (madeCells (Value.agg #[.int .i64 0, .int .i64 0]).cells (n * 2)) 118)
  have hsz : (madeCells (Value.agg #[.int .i64 0, .int .i64 0]).cells (n * 2)).size = n * 2 := size_madeCells _ _
  have hnw : ∀ j v, xs[j]? = some v → (w.alloc (.cells (madeCells (Value.agg #[.int .i64 0, .int .i64 0]).cells (n * 2)) 118)).cell? (Addr.add ⟨q, off, none⟩ j) = some v := fun j v hv => by rw [Addr.add_mid]; exact (hb0.cell (p := ⟨q, off + j, none⟩) hq).trans (by rw [← Addr.add_mid]; exact hsrc j v hv)
  have H0 := Lib.hid hnw
  have W0 := Lib.hid hw0
  have B0 := Lib.hid hb0
  have SZ0 := Lib.hid hsz
  have FL := Lib.hid hl
  have F1 := Lib.hid h1
  clear hsrc hw0 hb0 hsz hnw hl h1 hq
  generalize madeCells (Value.agg #[.int .i64 0, .int .i64 0]).cells (n * 2) = mc at hmk W0 B0 SZ0 H0
  have HL8 := Lib.hid h8
  have hn0 : (0 : Int) ≤ n := by omega
  have hle : (n : Int) ≤ 1048576 := by omega
  clear h8
  go_enter Tryz.func140, Tryz.ntmps140
  go_upto_region 2 with fail
  have hw0 := W0.out
  have hb0 := B0.out
  have h0q := H0.out
  clear hmk W0 B0 H0
  have hs1 : (w.alloc (.cells mc 118)).heap.size = w.heap.size + 1 := by simp
  generalize World.alloc _ _ = w1 at hw0 hb0 h0q hs1 ⊢
  have hF : 0 + xs.length ≤ mc.size := by rw [FL.out, SZ0.out]; omega
  have hrun := run_copy_rowS (P := Tryz.prog) w1 28 28 3 118 w.heap.size 0 n n ⟨q, off, none⟩ n cap mc 118 xs 2 Tryz.underlying28 (by obtain ⟨i, hi, _, hs, _⟩ := info_D2; rw [hi]; simp [hs]) hw0 (by rw [FL.out, show Nat.min n n = n from Nat.min_self n]) h0q hF F1.out
  rw [show Nat.min n n = n from Nat.min_self n, take0_drop mc.toList xs (by rw [Array.length_toList, SZ0.out, FL.out]; omega)] at hrun
  have hg2 := Lib.hid (setRow_heap w1 w.heap.size mc xs.toArray 118 _ hw0)
  have hgb2 : RowKit.Hid (w1.grownBy (w1.setRow w.heap.size xs.toArray) (some w.heap.size)) := Lib.hid ⟨rfl, rfl, rfl, by simp [World.setRow], fun k _ hk => setRow_other w1 w.heap.size k _ (by intro e; exact hk (by rw [e]))⟩
  have HB := Lib.hid hb0
  have HS2 := Lib.hid (show (w1.setRow w.heap.size xs.toArray).heap.size = w.heap.size + 1 by rw [setRow_size, hs1])
  generalize World.setRow w1 _ _ = w2 at hrun hg2 hgb2 HS2
  clear hw0 hb0 h0q hF hs1
  go_wp2_with fail
  go_ret
  exact ⟨rfl, hg2.out, HB.out.trans (gr_below hgb2.out HB.out.size (fun k e => by injection e; omega)), HS2.out⟩
set_option maxRecDepth 20000 in
set_option maxHeartbeats 4000000 in
theorem copied_D2_none (A : Option Addr) (cap : Nat) (w : World) :
    Calls Tryz.prog 140 #[.slice A 0 cap] w fun e w' => e = .returned (.slice (some ⟨w.heap.size, 0, none⟩) 0 0) ∧ CellsAt w' w.heap.size 118 #[] ∧ Below w.heap.size w w' ∧ w'.heap.size = w.heap.size + 1 := by
  have hmk := fun u => make_D2 0 (by decide) u
  simp only [Nat.zero_mul, Int.ofNat_zero] at hmk
  have hz : madeCells (Value.agg #[.int .i64 0, .int .i64 0]).cells 0 = #[] := by unfold madeCells; simp
  rw [hz] at hmk
  have hw0 := Lib.hid (CellsAt.new w 118 #[])
  have hb0 := Lib.hid (box_below w (.cells #[] 118))
  have HS2 := Lib.hid (show (w.alloc (.cells #[] 118)).heap.size = w.heap.size + 1 by simp)
  have hrun := fun (d : Option Addr) (dc : Nat) (u : World) => run_copy_noneS (P := Tryz.prog) u 28 28 3 118 d A dc cap 2 Tryz.underlying28 (by obtain ⟨i, hi, _, hs, _⟩ := info_D2; rw [hi]; simp [hs])
  go_enter Tryz.func140, Tryz.ntmps140
  go_wp2_with fail
  go_ret
  exact ⟨rfl, hw0.out, hb0.out, HS2.out⟩
theorem info_D4 : ∃ i, Tryz.prog.info? 91 = some i ∧ i.zero = some (Value.agg #[.int .i64 0, .slice none 0 0, .int .i64 0, .slice none 0 0]) ∧ i.size = 4 ∧ i.bytes ≤ 64 := by
  obtain ⟨i, hi, hzz⟩ := Option.map_eq_some_iff.1 info_slot
  simp only [Prod.mk.injEq] at hzz
  exact ⟨i, hi, hzz.1, hzz.2.1, by omega⟩
theorem make_D4 (n : Nat) (hn : n ≤ 1048576) (w : World) :
    (Instr.makeSlice 29 (.int .i64 (n : Int)) (.int .i64 (n : Int))).run Tryz.prog w = .ok (.slice (some ⟨w.heap.size, 0, none⟩) n n) (w.alloc (.cells (madeCells (Value.agg #[.int .i64 0, .slice none 0 0, .int .i64 0, .slice none 0 0]).cells (n * 4)) 91)) := by
  obtain ⟨i, hi, hz, hs, hb⟩ := info_D4
  have hr := run_make (P := Tryz.prog) w 29 91 i _ Tryz.underlying29 hi hz .i64 .i64 n n (by omega) (Int.le_refl _) (by have := Nat.mul_le_mul hn hb; have e := Nat.mul_comm n i.bytes; omega) (by omega)
  rw [hs] at hr
  simpa using hr
set_option maxRecDepth 20000 in
set_option maxHeartbeats 4000000 in
theorem copied_D4 (q off n cap : Nat) (xs : List Value) (w : World) (h8 : n ≤ 1048576) (hl : xs.length = n * 4) (h1 : ∀ v ∈ xs, v.oneCell' = true) (hq : q < w.heap.size) (hsrc : ∀ j v, xs[j]? = some v → w.cell? (Addr.add ⟨q, off, none⟩ j) = some v) :
    Calls Tryz.prog 144 #[.slice (some ⟨q, off, none⟩) n cap] w fun e w' => e = .returned (.slice (some ⟨w.heap.size, 0, none⟩) n n) ∧ CellsAt w' w.heap.size 91 xs.toArray ∧ Below w.heap.size w w' ∧ w'.heap.size = w.heap.size + 1 := by
  have hmk := fun u => make_D4 n h8 u
  have hw0 : CellsAt (w.alloc (.cells (madeCells (Value.agg #[.int .i64 0, .slice none 0 0, .int .i64 0, .slice none 0 0]).cells (n * 4)) 91)) w.heap.size 91 (madeCells (Value.agg #[.int .i64 0, .slice none 0 0, .int .i64 0, .slice none 0 0]).cells (n * 4)) := CellsAt.new w _ _
  have hb0 := box_below w (.cells (madeCells (Value.agg #[.int .i64 0, .slice none 0 0, .int .i64 0, .slice none 0 0]).cells (n * 4)) 91)
  have hsz : (madeCells (Value.agg #[.int .i64 0, .slice none 0 0, .int .i64 0, .slice none 0 0]).cells (n * 4)).size = n * 4 := size_madeCells _ _
  have hnw : ∀ j v, xs[j]? = some v → (w.alloc (.cells (madeCells (Value.agg #[.int .i64 0, .slice none 0 0, .int .i64 0, .slice none 0 0]).cells (n * 4)) 91)).cell? (Addr.add ⟨q, off, none⟩ j) = some v := fun j v hv => by rw [Addr.add_mid]; exact (hb0.cell (p := ⟨q, off + j, none⟩) hq).trans (by rw [← Addr.add_mid]; exact hsrc j v hv)
  have H0 := Lib.hid hnw
  have W0 := Lib.hid hw0
  have B0 := Lib.hid hb0
  have SZ0 := Lib.hid hsz
  have FL := Lib.hid hl
  have F1 := Lib.hid h1
  clear hsrc hw0 hb0 hsz hnw hl h1 hq
  generalize madeCells (Value.agg #[.int .i64 0, .slice none 0 0, .int .i64 0, .slice none 0 0]).cells (n * 4) = mc at hmk W0 B0 SZ0 H0
  have HL8 := Lib.hid h8
  have hn0 : (0 : Int) ≤ n := by omega
  have hle : (n : Int) ≤ 1048576 := by omega
  clear h8
  go_enter Tryz.func144, Tryz.ntmps144
  go_upto_region 2 with fail
  have hw0 := W0.out
  have hb0 := B0.out
  have h0q := H0.out
  clear hmk W0 B0 H0
  have hs1 : (w.alloc (.cells mc 91)).heap.size = w.heap.size + 1 := by simp
  generalize World.alloc _ _ = w1 at hw0 hb0 h0q hs1 ⊢
  have hF : 0 + xs.length ≤ mc.size := by rw [FL.out, SZ0.out]; omega
  have hrun := run_copy_rowS (P := Tryz.prog) w1 29 29 3 91 w.heap.size 0 n n ⟨q, off, none⟩ n cap mc 91 xs 4 Tryz.underlying29 (by obtain ⟨i, hi, _, hs, _⟩ := info_D4; rw [hi]; simp [hs]) hw0 (by rw [FL.out, show Nat.min n n = n from Nat.min_self n]) h0q hF F1.out
  rw [show Nat.min n n = n from Nat.min_self n, take0_drop mc.toList xs (by rw [Array.length_toList, SZ0.out, FL.out]; omega)] at hrun
  have hg2 := Lib.hid (setRow_heap w1 w.heap.size mc xs.toArray 91 _ hw0)
  have hgb2 : RowKit.Hid (w1.grownBy (w1.setRow w.heap.size xs.toArray) (some w.heap.size)) := Lib.hid ⟨rfl, rfl, rfl, by simp [World.setRow], fun k _ hk => setRow_other w1 w.heap.size k _ (by intro e; exact hk (by rw [e]))⟩
  have HB := Lib.hid hb0
  have HS2 := Lib.hid (show (w1.setRow w.heap.size xs.toArray).heap.size = w.heap.size + 1 by rw [setRow_size, hs1])
  generalize World.setRow w1 _ _ = w2 at hrun hg2 hgb2 HS2
  clear hw0 hb0 h0q hF hs1
  go_wp2_with fail
  go_ret
  exact ⟨rfl, hg2.out, HB.out.trans (gr_below hgb2.out HB.out.size (fun k e => by injection e; omega)), HS2.out⟩
theorem row_whole {w : World} {base g n size : Nat} {t : TypeId} {xs : List Value} (hg : CellsAt w g t xs.toArray) (hb : base ≤ g) (hl : xs.length = n * size) (h8 : n ≤ maxLen) : w.ownsRow base t size (.slice (some ⟨g, 0, none⟩) n n) n xs :=
  ⟨hl, .inr ⟨g, n, xs.toArray, rfl, hb, hg, Nat.le_refl _, h8, by simp [hl], by simp [← hl]⟩⟩
theorem copied_D8_at (A : Option Addr) (L : List Tru) (cap : Nat) (w : World) (h8 : L.length ≤ 1048576) (hA : Trs w w.heap.size A L) :
    Calls Tryz.prog 141 #[.slice A L.length cap] w fun e w' => e = .returned (.slice (some ⟨w.heap.size, 0, none⟩) L.length L.length) ∧ CellsAt w' w.heap.size 94 (flatS truV L).toArray ∧ Below w.heap.size w w' ∧ w'.heap.size = w.heap.size + 1 := by
  rcases Nat.eq_zero_or_pos L.length with h0 | h0
  · have hx : flatS truV L = [] := List.length_eq_zero_iff.1 (by rw [flatS_length truV_len, h0])
    rw [h0, hx]
    exact copied_D8_none A cap w
  · obtain ⟨q, off, rfl, hq, _⟩ := hA 0 h0
    refine copied_D8 q off L.length cap (flatS truV L) w h8 (flatS_length truV_len) (truV_one L) hq ?_
    intro j v hv
    obtain ⟨ad, e, hc⟩ := hA.news truV_len (by omega) j v hv
    injection e with e
    rw [e]; exact hc
theorem copied_D2_at (A : Option Addr) (L : List Ce) (cap : Nat) (w : World) (h8 : L.length ≤ 1048576) (hA : Cls w w.heap.size A L) :
    Calls Tryz.prog 140 #[.slice A L.length cap] w fun e w' => e = .returned (.slice (some ⟨w.heap.size, 0, none⟩) L.length L.length) ∧ CellsAt w' w.heap.size 118 (flatS ceV L).toArray ∧ Below w.heap.size w w' ∧ w'.heap.size = w.heap.size + 1 := by
  rcases Nat.eq_zero_or_pos L.length with h0 | h0
  · have hx : flatS ceV L = [] := List.length_eq_zero_iff.1 (by rw [flatS_length ceV_len, h0])
    rw [h0, hx]
    exact copied_D2_none A cap w
  · obtain ⟨q, off, rfl, hq, _⟩ := hA 0 h0
    refine copied_D2 q off L.length cap (flatS ceV L) w h8 (flatS_length ceV_len) (ceV_one L) hq ?_
    intro j v hv
    obtain ⟨ad, e, hc⟩ := hA.news ceV_len (by omega) j v hv
    injection e with e
    rw [e]; exact hc
theorem copied_D1_at (A : Option Addr) (l : List Int) (cap : Nat) (w : World) (h8 : l.length ≤ 1048576) (hA : Ints w .i64 w.heap.size A l) :
    Calls Tryz.prog 143 #[.slice A l.length cap] w fun e w' => e = .returned (.slice (some ⟨w.heap.size, 0, none⟩) l.length l.length) ∧ CellsAt w' w.heap.size 2 (l.map (Value.int .i64)).toArray ∧ Below w.heap.size w w' ∧ w'.heap.size = w.heap.size + 1 := by
  rcases Nat.eq_zero_or_pos l.length with h0 | h0
  · have hx : l = [] := List.length_eq_zero_iff.1 h0
    subst hx
    exact copied_D1_none A cap w
  · obtain ⟨q, off, rfl, hq, _⟩ := hA 0 h0
    refine copied_D1 q off l.length cap (l.map (Value.int .i64)) w h8 (by simp) (by intro v hv; obtain ⟨i, _, rfl⟩ := List.mem_map.1 hv; rfl) hq ?_
    intro j v hv
    rw [List.getElem?_map] at hv
    cases hj : l[j]? with
    | none => rw [hj] at hv; cases hv
    | some i =>
      rw [hj] at hv
      simp only [Option.map_some, Option.some.injEq] at hv
      subst hv
      have hlt := (List.getElem?_eq_some_iff.1 hj).1
      obtain ⟨q', off', e, _, hc⟩ := hA j hlt
      simp only [Option.some.injEq, Addr.mk.injEq] at e
      obtain ⟨rfl, rfl, _⟩ := e
      rw [Addr.add_mid, hc, List.getD_eq_getElem?_getD, hj]; rfl
theorem copied_D4_two (b off cap : Nat) (v0 v1 v2 v3 v4 v5 v6 v7 : Value) (w : World) (h1 : (#[v0, v1, v2, v3, v4, v5, v6, v7] : Array Value).all (·.oneCell') = true) (hb : b < w.heap.size) (h0 : w.cell? ⟨b, off, none⟩ = some v0) (g1 : w.cell? ⟨b, off + 1, none⟩ = some v1) (g2 : w.cell? ⟨b, off + 2, none⟩ = some v2) (g3 : w.cell? ⟨b, off + 3, none⟩ = some v3)
    (g4 : w.cell? ⟨b, off + 4, none⟩ = some v4) (g5 : w.cell? ⟨b, off + 5, none⟩ = some v5) (g6 : w.cell? ⟨b, off + 6, none⟩ = some v6) (g7 : w.cell? ⟨b, off + 7, none⟩ = some v7) :
    Calls Tryz.prog 144 #[.slice (some ⟨b, off, none⟩) 2 cap] w fun e w' => e = .returned (.slice (some ⟨w.heap.size, 0, none⟩) 2 2) ∧ CellsAt w' w.heap.size 91 #[v0, v1, v2, v3, v4, v5, v6, v7] ∧ Below w.heap.size w w' ∧ w'.heap.size = w.heap.size + 1 := by
  refine copied_D4 b off 2 cap [v0, v1, v2, v3, v4, v5, v6, v7] w (by decide) rfl (by simpa using h1) hb ?_
  intro j v hv
  rw [Addr.add_mid]
  have hj : j < 8 := (List.getElem?_eq_some_iff.1 hv).1
  rcases (by omega : j = 0 ∨ j = 1 ∨ j = 2 ∨ j = 3 ∨ j = 4 ∨ j = 5 ∨ j = 6 ∨ j = 7) with rfl | rfl | rfl | rfl | rfl | rfl | rfl | rfl <;> simp only [List.getElem?_cons_zero, List.getElem?_cons_succ, Option.some.injEq] at hv <;> subst hv <;> assumption
structure VolG where
  key : Int
  counts : List Int
  trusts : List Tru
  cells : List Ce
  slots : List SlN
  count : Int
abbrev vG (x : VolG) (A : Option Addr) (a : Nat) (B : Option Addr) (b : Nat) (C : Option Addr) (c : Nat) (E : Option Addr) (e : Nat) : Array Value := #[.int .i64 x.key, .slice A x.counts.length a, .slice B x.trusts.length b, .slice C x.cells.length c, .slice E x.slots.length e, .int .i64 x.count]
def RdG (w : World) (Bd : Nat) (x : VolG) (v : Value) : Prop :=
  ∃ A c B d C e E s, v = .agg #[.int .i64 x.key, .slice A x.counts.length c, .slice B x.trusts.length d, .slice C x.cells.length e, .slice E x.slots.length s, .int .i64 x.count] ∧ Ints w .i64 Bd A x.counts ∧ Trs w Bd B x.trusts ∧ Cls w Bd C x.cells ∧ Slots w Bd E x.slots ∧ x.counts.length ≤ c ∧ x.slots.length ≤ s
theorem RdG.below {w u : World} {Bd D : Nat} {x : VolG} {v : Value} (h : RdG w Bd x v) (hb : Below D w u) (hD : Bd ≤ D) : RdG u Bd x v := by
  obtain ⟨A, c, B, d, C, e, E, s, rfl, h1, h2, h3, h4, h5⟩ := h
  exact ⟨A, c, B, d, C, e, E, s, rfl, h1.below hb hD, h2.below hb hD, h3.below hb hD, h4.below hb hD, h5⟩
theorem RdG.more {w : World} {Bd D : Nat} {x : VolG} {v : Value} (h : RdG w Bd x v) (hD : Bd ≤ D) : RdG w D x v := by
  obtain ⟨A, c, B, d, C, e, E, s, rfl, h1, h2, h3, h4, h5⟩ := h
  exact ⟨A, c, B, d, C, e, E, s, rfl, h1.more hD, h2.more hD, h3.more hD, h4.more hD, h5⟩
theorem RdG.grow {w u : World} {x : VolG} {v : Value} (h : RdG w w.heap.size x v) (hb : Below w.heap.size w u) : RdG u u.heap.size x v := (h.below hb (Nat.le_refl _)).more hb.size
def VolG.Short (x : VolG) : Prop := x.counts.length ≤ 1048576 ∧ x.trusts.length ≤ 1048576 ∧ x.cells.length ≤ 1048576 ∧ x.slots.length ≤ 1048576 ∧ SlShort x.slots
def SlOwn (u : World) (lo hi : Nat) (g : Nat) (S : List SlN) : Prop := (lo ≤ g ∧ g < hi) ∧ ∃ cs, CellsAt u g 91 cs ∧ cs.size = S.length * 4 ∧ ∀ j, j < S.length → ∃ a b, (lo ≤ a ∧ a < hi) ∧ (lo ≤ b ∧ b < hi) ∧ cs[j * 4 + 1]? = some (.slice (some ⟨a, 0, none⟩) (S.getD j default).trusts.length (S.getD j default).trusts.length) ∧ cs[j * 4 + 3]? = some (.slice (some ⟨b, 0, none⟩) (S.getD j default).cells.length (S.getD j default).cells.length) ∧ ShX u a 94 ((S.getD j default).trusts.length * 8) ∧ ShX u b 118 ((S.getD j default).cells.length * 2)
def OwnG (u : World) (lo hi : Nat) (x : VolG) (v : Value) : Prop :=
  ∃ ga gb gc gd, v = .agg #[.int .i64 x.key, .slice (some ⟨ga, 0, none⟩) x.counts.length x.counts.length, .slice (some ⟨gb, 0, none⟩) x.trusts.length x.trusts.length, .slice (some ⟨gc, 0, none⟩) x.cells.length x.cells.length, .slice (some ⟨gd, 0, none⟩) x.slots.length x.slots.length, .int .i64 x.count] ∧
    ((lo ≤ ga ∧ ga < hi) ∧ ShX u ga 2 x.counts.length) ∧ ((lo ≤ gb ∧ gb < hi) ∧ ShX u gb 94 (x.trusts.length * 8)) ∧ ((lo ≤ gc ∧ gc < hi) ∧ ShX u gc 118 (x.cells.length * 2)) ∧ SlOwn u lo hi gd x.slots
theorem ShX.keep {u u' : World} {p g n : Nat} {t t' : TypeId} {cs ds : Array Value} (h : ShX u p t n) (hg : u.grownBy u' (some g)) (hc : CellsAt u g t' cs) (hd : CellsAt u' g t' ds) (hs : ds.size = cs.size) : ShX u' p t n := by
  obtain ⟨es, h1, h2⟩ := h
  by_cases e : p = g
  · subst e
    have h3 : some (Obj.cells es t (0, 0)) = some (Obj.cells cs t' (0, 0)) := h1.symm.trans hc
    simp only [Option.some.injEq, Obj.cells.injEq, and_true] at h3
    obtain ⟨rfl, rfl⟩ := h3
    exact ⟨ds, hd, by omega⟩
  · exact ⟨es, h1.grown hg (by intro e2; injection e2 with e2; exact e e2), h2⟩
theorem SlOwn.below {u u' : World} {lo hi g : Nat} {S : List SlN} (h : SlOwn u lo hi g S) (hb : Below u.heap.size u u') : SlOwn u' lo hi g S := by
  obtain ⟨h0, cs, h1, h2, h3⟩ := h
  refine ⟨h0, cs, h1.below hb h1.lt, h2, fun j hj => ?_⟩
  obtain ⟨a, b, h4, h5, h6, h7, h8, h9⟩ := h3 j hj
  exact ⟨a, b, h4, h5, h6, h7, h8.below hb, h9.below hb⟩
theorem SlOwn.keep {u u' : World} {lo hi p g : Nat} {t' : TypeId} {cs ds : Array Value} {S : List SlN} (h : SlOwn u lo hi p S) (hg : u.grownBy u' (some g)) (hc : CellsAt u g t' cs) (hd : CellsAt u' g t' ds) (hs : ds.size = cs.size) (ht : t' ≠ 91) : SlOwn u' lo hi p S := by
  obtain ⟨h0, es, h1, h2, h3⟩ := h
  have hne : p ≠ g := fun e => by
    subst e
    have h4 : some (Obj.cells es 91 (0, 0)) = some (Obj.cells cs t' (0, 0)) := h1.symm.trans hc
    simp only [Option.some.injEq, Obj.cells.injEq, and_true] at h4
    exact ht h4.2.symm
  refine ⟨h0, es, h1.grown hg (by intro e2; injection e2 with e2; exact hne e2), h2, fun j hj => ?_⟩
  obtain ⟨a, b, h4, h5, h6, h7, h8, h9⟩ := h3 j hj
  exact ⟨a, b, h4, h5, h6, h7, h8.keep hg hc hd hs, h9.keep hg hc hd hs⟩
theorem row_setCell {w : World} {base e size n c g i : Nat} {xs : List Value} (h : w.ownsRow base e size (.slice (some ⟨g, 0, none⟩) n c) n xs) (hi : i < n * size) (u : Value) :
    (w.setCell ⟨g, i, none⟩ u).ownsRow base e size (.slice (some ⟨g, 0, none⟩) n c) n (xs.set i u) := by
  refine ⟨by rw [List.length_set]; exact h.1, ?_⟩
  rcases h.2 with ⟨h0, _⟩ | ⟨g', cap, cur, e1, hb, hg, hnc, hcm, hcs, htake⟩
  · cases h0
  · simp only [Value.slice.injEq, Option.some.injEq, Addr.mk.injEq, and_true, true_and] at e1
    obtain ⟨rfl, rfl⟩ := e1
    refine .inr ⟨g, c, cur.setIfInBounds i u, rfl, hb, heap_setCell_same w g i cur e u hg, hnc, hcm, by simpa using hcs, ?_⟩
    rw [Array.toList_setIfInBounds, List.take_set, htake]
section
variable {α : Type} [Inhabited α] {enc : α → List Value} {n : Nat}
theorem flatS_set (hn : ∀ x, (enc x).length = n) (L : List α) (k : Nat) (x : α) (hk : k < L.length) : ∀ i, i < L.length * n → (flatS enc (L.set k x))[i]? = if k * n ≤ i ∧ i < (k + 1) * n then (enc x)[i - k * n]? else (flatS enc L)[i]? := by
  intro i hi
  have hp : 0 < n := by rcases Nat.eq_zero_or_pos n with h | h; subst h; simp at hi; exact h
  have hm := Nat.mod_lt i hp
  have hd : i / n < L.length := (Nat.div_lt_iff_lt_mul hp).2 hi
  have he : i / n * n + i % n = i := by rw [Nat.mul_comm]; exact Nat.div_add_mod i n
  have h1 : (flatS enc (L.set k x))[i]? = (enc ((L.set k x).getD (i / n) default))[i % n]? := by
    have := flatS_get (enc := enc) (L := L.set k x) hn (i / n) (i % n) (by rw [List.length_set]; exact hd) hm
    rwa [he] at this
  have h2 : (flatS enc L)[i]? = (enc (L.getD (i / n) default))[i % n]? := by
    have := flatS_get (enc := enc) (L := L) hn (i / n) (i % n) hd hm
    rwa [he] at this
  rw [h1, h2, List.getD_eq_getElem?_getD, List.getD_eq_getElem?_getD, List.getElem?_set]
  by_cases hik : i / n = k
  · subst hik
    rw [if_pos rfl, if_pos hd, if_pos ⟨by omega, by rw [Nat.succ_mul]; omega⟩]
    simp only [Option.getD_some]
    congr 1; omega
  · rw [if_neg (fun e => hik e.symm), if_neg]
    rintro ⟨a, b⟩
    apply hik
    have c1 : k ≤ i / n := (Nat.le_div_iff_mul_le hp).2 a
    have c2 : i / n < k + 1 := (Nat.div_lt_iff_lt_mul hp).2 b
    omega
end
def VolR (w : World) (Bd : Nat) (x : VolN) (v : Value) : Prop :=
  ∃ A c B d C e b off sc, v = .agg (vX x A c B d C e b off sc) ∧
    Ints w .i64 Bd A x.counts ∧ Trs w Bd B x.trusts ∧ Cls w Bd C x.cells ∧ b < Bd ∧ SlotAt w Bd b off x.s0 ∧ SlotAt w Bd b (off + 4) x.s1 ∧ x.counts.length ≤ c
theorem VolR.below {w u : World} {Bd D : Nat} {x : VolN} {v : Value} (h : VolR w Bd x v) (hb : Below D w u) (hD : Bd ≤ D) : VolR u Bd x v := by
  obtain ⟨A, c, B, d, C, e, b, off, sc, h0, h1, h2, h3, h4, h5, h6, h7⟩ := h
  exact ⟨A, c, B, d, C, e, b, off, sc, h0, h1.below hb hD, h2.below hb hD, h3.below hb hD, h4, h5.below hb hD h4, h6.below hb hD h4, h7⟩
theorem VolR.more {w : World} {Bd D : Nat} {x : VolN} {v : Value} (h : VolR w Bd x v) (hD : Bd ≤ D) : VolR w D x v := by
  obtain ⟨A, c, B, d, C, e, b, off, sc, h0, h1, h2, h3, h4, h5, h6, h7⟩ := h
  exact ⟨A, c, B, d, C, e, b, off, sc, h0, h1.more hD, h2.more hD, h3.more hD, by omega, h5.more hD, h6.more hD, h7⟩
theorem VolR.grow {w u : World} {x : VolN} {v : Value} (h : VolR w w.heap.size x v) (hb : Below w.heap.size w u) : VolR u u.heap.size x v := (h.below hb (Nat.le_refl _)).more hb.size
theorem row_at {u : World} {base : Nat} {v : Value} {t size n : Nat} {xs : List Value} (h : u.ownsRow base t size v n xs) : ∀ g ∈ blkOf v, base ≤ g ∧ g < u.heap.size := by
  intro g hg
  unfold blkOf at hg
  split at hg
  · rename_i a _ _
    simp only [List.mem_singleton] at hg
    subst hg
    exact World.ownsRow.lt h a.block rfl
  · cases hg
theorem row_keep {u u' : World} {base p : Nat} {v : Value} {t size n : Nat} {xs : List Value} (h : u.ownsRow base t size v n xs) (hg : u.grownBy u' (some p)) (hp : p ∉ blkOf v) : u'.ownsRow base t size v n xs :=
  row_stable h fun g hgm => hg.block g (row_at h g hgm).2 (by intro e; injection e with e; subst e; exact hp hgm)
theorem VolO.reads {u : World} {base : Nat} {x : VolN} {v : Value} (h : VolO u base x v) : VolR u u.heap.size x v := by
  obtain ⟨A, c, B, d, C, e, g, A0, c0, C0, d0, A1, c1, C1, d1, h0, h1, h2, h3, h4, h5, h6, h7, h8, h9, h10⟩ := h
  obtain ⟨A', c', e1, i1, i2⟩ := h1.form
  obtain ⟨B', d', e2, i3, i4⟩ := h2.reads truV_len
  obtain ⟨C', f', e3, i5, i6⟩ := h3.reads ceV_len
  obtain ⟨A0', c0', e4, i7, _⟩ := h6.reads truV_len
  obtain ⟨C0', d0', e5, i8, _⟩ := h7.reads ceV_len
  obtain ⟨A1', c1', e6, i9, _⟩ := h8.reads truV_len
  obtain ⟨C1', d1', e7, i10, _⟩ := h9.reads ceV_len
  simp only [Value.slice.injEq, true_and] at e1 e2 e3 e4 e5 e6 e7
  obtain ⟨rfl, rfl⟩ := e1
  obtain ⟨rfl, rfl⟩ := e2
  obtain ⟨rfl, rfl⟩ := e3
  obtain ⟨rfl, rfl⟩ := e4
  obtain ⟨rfl, rfl⟩ := e5
  obtain ⟨rfl, rfl⟩ := e6
  obtain ⟨rfl, rfl⟩ := e7
  refine ⟨A, c, B, d, C, e, g, 0, 2, h0, i1, i3, i5, h5.lt, ⟨A0, c0, C0, d0, h5.cell 0, h5.cell 1, h5.cell 2, h5.cell 3, i7, i8⟩, ⟨A1, c1, C1, d1, h5.cell 4, h5.cell 5, h5.cell 6, h5.cell 7, i9, i10⟩, i2⟩
theorem VolO.below {u u' : World} {base : Nat} {x : VolN} {v : Value} (h : VolO u base x v) (hb : Below u.heap.size u u') : VolO u' base x v := by
  obtain ⟨A, c, B, d, C, e, g, A0, c0, C0, d0, A1, c1, C1, d1, h0, h1, h2, h3, h4, h5, h6, h7, h8, h9, h10⟩ := h
  have k := fun {vv : Value} {t size n : Nat} {xs : List Value} (hr : u.ownsRow base t size vv n xs) => row_stable hr (u' := u') fun y hy => hb.block y (row_at hr y hy).2
  exact ⟨A, c, B, d, C, e, g, A0, c0, C0, d0, A1, c1, C1, d1, h0, k h1, k h2, k h3, h4, h5.below hb h5.lt, k h6, k h7, k h8, k h9, h10⟩
theorem VolO.mono {u : World} {base base' : Nat} {x : VolN} {v : Value} (h : VolO u base x v) (hb : base' ≤ base) : VolO u base' x v := by
  obtain ⟨A, c, B, d, C, e, g, A0, c0, C0, d0, A1, c1, C1, d1, h0, h1, h2, h3, h4, h5, h6, h7, h8, h9, h10⟩ := h
  exact ⟨A, c, B, d, C, e, g, A0, c0, C0, d0, A1, c1, C1, d1, h0, row_mono h1 hb, row_mono h2 hb, row_mono h3 hb, Nat.le_trans hb h4, h5, row_mono h6 hb, row_mono h7 hb, row_mono h8 hb, row_mono h9 hb, h10⟩
theorem VolO.out {u u' : World} {base p : Nat} {x : VolN} {v : Value} (h : VolO u base x v) (hg : u.grownBy u' (some p)) (hp : p < base) : VolO u' base x v := by
  obtain ⟨A, c, B, d, C, e, g, A0, c0, C0, d0, A1, c1, C1, d1, h0, h1, h2, h3, h4, h5, h6, h7, h8, h9, h10⟩ := h
  have k := fun {vv : Value} {t size n : Nat} {xs : List Value} (hr : u.ownsRow base t size vv n xs) => row_keep hr hg (fun hm => by have := (row_at hr p hm).1; omega)
  exact ⟨A, c, B, d, C, e, g, A0, c0, C0, d0, A1, c1, C1, d1, h0, k h1, k h2, k h3, h4, h5.grown hg (by intro q; injection q with q; omega), k h6, k h7, k h8, k h9, h10⟩
theorem VolO.trustsAt {u : World} {base : Nat} {x : VolN} {v : Value} (h : VolO u base x v) (hk : 0 < x.trusts.length) :
    ∃ A c B d C e b sc g, v = .agg (vX x A c B d C e b 0 sc) ∧ B = some ⟨g, 0, none⟩ ∧ base ≤ g ∧ g < u.heap.size ∧ TrRow u base (.slice (some ⟨g, 0, none⟩) x.trusts.length d) x.trusts ∧
      ∀ (u' : World) (L' : List Tru), L'.length = x.trusts.length → u.grownBy u' (some g) → TrRow u' base (.slice (some ⟨g, 0, none⟩) L'.length d) L' → VolO u' base { x with trusts := L' } v := by
  obtain ⟨A, c, B, d, C, e, b, A0, c0, C0, d0, A1, c1, C1, d1, h0, h1, h2, h3, h4, h5, h6, h7, h8, h9, h10⟩ := h
  obtain ⟨g, cap, e1, hb1, hlt⟩ := World.ownsRow.form h2 hk
  simp only [Value.slice.injEq, true_and] at e1
  obtain ⟨rfl, rfl⟩ := e1
  refine ⟨A, c, some ⟨g, 0, none⟩, d, C, e, b, 2, g, h0, rfl, hb1, hlt, h2, fun u' L' hl hgb hrow => ?_⟩
  have hmem : g ∈ blkOf (.slice (some ⟨g, 0, none⟩) x.trusts.length d) := by simp [blkOf]
  have p0 : ∀ y ∈ blkOf (.slice A x.counts.length c), y ∉ blkOf (.slice (some ⟨g, 0, none⟩) x.trusts.length d) := (List.pairwise_iff_getElem.1 h10) 0 1 (by simp) (by simp) (by omega)
  have n0 : g ∉ blkOf (.slice A x.counts.length c) := fun hm => p0 g hm hmem
  have p2 : ∀ y ∈ blkOf (.slice (some ⟨g, 0, none⟩) x.trusts.length d), y ∉ blkOf (.slice C x.cells.length e) := (List.pairwise_iff_getElem.1 h10) 1 2 (by simp) (by simp) (by omega)
  have n2 : g ∉ blkOf (.slice C x.cells.length e) := p2 g hmem
  have p3 : ∀ y ∈ blkOf (.slice (some ⟨g, 0, none⟩) x.trusts.length d), y ∉ [b] := (List.pairwise_iff_getElem.1 h10) 1 3 (by simp) (by simp) (by omega)
  have n3 : g ≠ b := fun eq => p3 g hmem (by rw [eq]; simp)
  have p4 : ∀ y ∈ blkOf (.slice (some ⟨g, 0, none⟩) x.trusts.length d), y ∉ blkOf (.slice A0 x.s0.trusts.length c0) := (List.pairwise_iff_getElem.1 h10) 1 4 (by simp) (by simp) (by omega)
  have n4 : g ∉ blkOf (.slice A0 x.s0.trusts.length c0) := p4 g hmem
  have p5 : ∀ y ∈ blkOf (.slice (some ⟨g, 0, none⟩) x.trusts.length d), y ∉ blkOf (.slice C0 x.s0.cells.length d0) := (List.pairwise_iff_getElem.1 h10) 1 5 (by simp) (by simp) (by omega)
  have n5 : g ∉ blkOf (.slice C0 x.s0.cells.length d0) := p5 g hmem
  have p6 : ∀ y ∈ blkOf (.slice (some ⟨g, 0, none⟩) x.trusts.length d), y ∉ blkOf (.slice A1 x.s1.trusts.length c1) := (List.pairwise_iff_getElem.1 h10) 1 6 (by simp) (by simp) (by omega)
  have n6 : g ∉ blkOf (.slice A1 x.s1.trusts.length c1) := p6 g hmem
  have p7 : ∀ y ∈ blkOf (.slice (some ⟨g, 0, none⟩) x.trusts.length d), y ∉ blkOf (.slice C1 x.s1.cells.length d1) := (List.pairwise_iff_getElem.1 h10) 1 7 (by simp) (by simp) (by omega)
  have n7 : g ∉ blkOf (.slice C1 x.s1.cells.length d1) := p7 g hmem
  refine ⟨A, c, some ⟨g, 0, none⟩, d, C, e, b, A0, c0, C0, d0, A1, c1, C1, d1, ?_, row_keep h1 hgb n0, hrow, row_keep h3 hgb n2, h4, h5.grown hgb (by intro eq; injection eq with eq; exact n3 eq.symm), row_keep h6 hgb n4, row_keep h7 hgb n5, row_keep h8 hgb n6, row_keep h9 hgb n7, ?_⟩
  · simp only [vX]; rw [hl]; exact h0
  · simp only []; rw [hl]; exact h10
open Go.RowKit
theorem vol_end {w w1 : World} {r : Nat} {t : TypeId} {x0 x1 x2 x3 x4 x5 y0 y1 y2 y3 y4 y5 : Value} (hk : CellsAt w1 r t #[y0, y1, y2, y3, y4, y5]) (hb : Below w.heap.size w w1) (hr : w.heap.size ≤ r) :
    ∃ w4, ((((((w1.setCell ⟨r, 0, none⟩ x0).setCell ⟨r, 1, none⟩ x1).setCell ⟨r, 2, none⟩ x2).setCell ⟨r, 3, none⟩ x3).setCell ⟨r, 4, none⟩ x4).setCell ⟨r, 5, none⟩ x5) = w4 ∧ (w4.cell? ⟨r, 0, none⟩ = some x0 ∧ w4.cell? ⟨r, 1, none⟩ = some x1 ∧ w4.cell? ⟨r, 2, none⟩ = some x2 ∧ w4.cell? ⟨r, 3, none⟩ = some x3 ∧ w4.cell? ⟨r, 4, none⟩ = some x4 ∧ w4.cell? ⟨r, 5, none⟩ = some x5) ∧ Below w.heap.size w w4 ∧ w1.grownBy w4 (some r) := by
  have h := (((((hk.set_ 0 x0).set_ 1 x1).set_ 2 x2).set_ 3 x3).set_ 4 x4).set_ 5 x5
  simp only [List.setIfInBounds_toArray, List.set_cons_zero, List.set_cons_succ] at h
  have hb2 := (((((hb.setCell (p := ⟨r, 0, none⟩) hr x0).setCell (p := ⟨r, 1, none⟩) hr x1).setCell (p := ⟨r, 2, none⟩) hr x2).setCell (p := ⟨r, 3, none⟩) hr x3).setCell (p := ⟨r, 4, none⟩) hr x4).setCell (p := ⟨r, 5, none⟩) hr x5
  have hg := gb_set (gb_set (gb_set (gb_set (gb_set (gb_set (gb_refl w1 (some r)) 0 x0) 1 x1) 2 x2) 3 x3) 4 x4) 5 x5
  generalize World.setCell _ _ _ = w4 at h hb2 hg ⊢
  exact ⟨w4, rfl, ⟨h.cell 0, h.cell 1, h.cell 2, h.cell 3, h.cell 4, h.cell 5⟩, hb2, hg⟩
end Go.Proofs.YteoijmejhdocdaaGreatDoor.Mx

/- CONTRACTS OF laws.szTripleS, toTripleS (a copy of a list of triples, in new memory), eqTriple, eqTripleS (at two that read alike: true). -/
import Derived.Test.YtdljiccpppcljaaTripL
import Derived.Test.YtdljiccpppcljaaDrawG
import Derived.Test.YtdljiccpppcljaaKept
import Derived.Deep.OwnRows
import Derived.Deep.RegionWith
namespace Go.Proofs.Ytdljiccpppcljaa.Mx
open Go.ChangeShapes Go.WideShapes Go.ChangeAt Go.RowKit
set_option linter.unusedVariables false

theorem info_tri : (Try.prog.info? 32).map (fun i => (i.zero, i.size, i.bytes)) = some (some (.agg #[.int .i64 0, .int .i64 0, .int .i64 0]), 3, 24) := by kernel_rfl

theorem szTri_calls (A : Option Addr) (n cap : Nat) (left : Int) (w : World) (h0 : 0 ≤ left) (h1 : left ≤ 1048576) (hn : n ≤ maxLen) :
    Calls Try.prog 19 #[.slice A n cap, .int .i64 left] w fun e w' => e = .returned (.int .i64 (if (n : Int) ≤ left then left - n else -1)) ∧ w = w' := by
  unfold maxLen at hn
  by_cases h : (n : Int) ≤ left
  · rw [if_pos h]
    have h2 : ¬ left - n < 0 := by omega
    go_enter Try.func19, Try.ntmps19
    go_wp2
    go_ret
    exact ⟨rfl, rfl⟩
  · rw [if_neg h]
    have h2 : left - n < 0 := by omega
    go_enter Try.func19, Try.ntmps19
    go_wp2
    go_ret
    exact ⟨rfl, rfl⟩

theorem eqTri_same (a t v : Int) (w : World) :
    Calls Try.prog 22 #[.agg #[.int .i64 a, .int .i64 t, .int .i64 v], .agg #[.int .i64 a, .int .i64 t, .int .i64 v]] w fun e w' => e = .returned (.bool true) ∧ Below w.heap.size w w' := by
  have hk := ((Kept.refl w).new 32 #[.int .i64 a, .int .i64 t, .int .i64 v]).new 32 #[.int .i64 a, .int .i64 t, .int .i64 v]
  rw [show (w.alloc (.cells #[.int .i64 a, .int .i64 t, .int .i64 v] 32)).heap.size = w.heap.size + 1 by simp] at hk
  have HK := Lib.hid hk
  clear hk
  have ea : (a != a) = false := by simp
  have et : (t != t) = false := by simp
  have ev : (v != v) = false := by simp
  go_enter Try.func22, Try.ntmps22
  go_wp2_with fail
  go_ret
  exact ⟨rfl, HK.out.1⟩

set_option maxHeartbeats 1000000 in
theorem eqTris_same (A C : Option Addr) (L : List Tri) (cap cap' : Nat) (w : World) (hn : L.length ≤ maxLen) (hA : Tris w w.heap.size A L) (hC : Tris w w.heap.size C L) :
    Calls Try.prog 21 #[.slice A L.length cap, .slice C L.length cap'] w fun e w' => e = .returned (.bool true) ∧ Below w.heap.size w w' := by
  have hm := hn
  unfold maxLen at hm
  have HA := Lib.hid hA
  have HC := Lib.hid hC
  clear hA hC hn
  go_enter Try.func21, Try.ntmps21
  go_wp2_with fail
  go_loopw [5] (fun i wr => ∃ k : Nat, k ≤ L.length ∧ i = .int .i64 k ∧ Below w.heap.size w wr) (fun i _ => L.length - (intOf i).toNat)
  case atStart => exact ⟨0, Nat.zero_le _, rfl, Below.refl _ _⟩
  case round =>
    obtain ⟨k, hk, rfl, hbel⟩ := hrel
    have HB := Lib.hid hbel
    clear hbel
    by_cases hlt : k < L.length
    · obtain ⟨b, off, rfl, hb, c0, c1, c2⟩ := (HA.out.below HB.out.drew (Nat.le_refl _)) k hlt
      obtain ⟨b', off', rfl, hb', c0', c1', c2'⟩ := (HC.out.below HB.out.drew (Nat.le_refl _)) k hlt
      have hlt' : (k : Int) < L.length := by omega
      have hk0 : (0 : Int) ≤ k := by omega
      generalize L.getD k (0, 0, 0) = T at c0 c1 c2 c0' c1' c2'
      obtain ⟨a, t, v⟩ := T
      simp only at c0 c1 c2 c0' c1' c2'
      go_wp2_with fail
      go_region_with (go_at_call 22; refine (eqTri_same _ _ _ _).mono ?_; rintro e wx ⟨rfl, bx⟩)
      all_goals
        have BX := Lib.hid (HB.out.drew.trans (bx.mono HB.out.drew.size))
        clear bx c0 c1 c2 c0' c1' c2'
        go_wp2_with fail
        go_roundw
        case rel => exact ⟨k + 1, by omega, by go_num, BX.out⟩
        case measure => simp [intOf]; omega
    · go_wp2_with fail
      go_ret
      exact ⟨rfl, HB.out⟩

/-- A triple's number at place j. -/
def tc (T : Tri) (j : Nat) : Int := if j = 0 then T.1 else if j = 1 then T.2.1 else T.2.2
/-- The cells of a copy of which k triples are laid. -/
def laidT (L : List Tri) (k i : Nat) : Value := .int .i64 (if i < k * 3 then tc (L.getD (i / 3) (0, 0, 0)) (i % 3) else 0)
theorem laidT_zero (L : List Tri) (i : Nat) : laidT L 0 i = .int .i64 0 := by unfold laidT; rw [if_neg (by omega)]
theorem laidT_at (L : List Tri) {k i j : Nat} (hi : i < k) (hj : j < 3) : laidT L k (i * 3 + j) = .int .i64 (tc (L.getD i (0, 0, 0)) j) := by
  unfold laidT; rw [if_pos (by omega), show (i * 3 + j) / 3 = i by omega, show (i * 3 + j) % 3 = j by omega]
theorem laidT_next (L : List Tri) {k : Nat} {a t v : Int} (h : L.getD k (0, 0, 0) = (a, t, v)) (i : Nat) :
    laidT L (k + 1) i = if i = k * 3 + 2 then .int .i64 v else if i = k * 3 + 1 then .int .i64 t else if i = k * 3 then .int .i64 a else laidT L k i := by
  by_cases h2 : i = k * 3 + 2
  · subst h2; rw [if_pos rfl, laidT_at L (by omega) (by omega), h]; rfl
  · rw [if_neg h2]
    by_cases h1 : i = k * 3 + 1
    · subst h1; rw [if_pos rfl, laidT_at L (by omega) (by omega), h]; rfl
    · rw [if_neg h1]
      by_cases h0 : i = k * 3
      · subst h0; rw [if_pos rfl, show k * 3 = k * 3 + 0 by omega, laidT_at L (by omega) (by omega), h]; rfl
      · rw [if_neg h0]
        unfold laidT
        by_cases hlt : i < k * 3
        · rw [if_pos hlt, if_pos (by omega)]
        · rw [if_neg hlt, if_neg (by omega)]
theorem rowIs_below {w w' : World} {B b t n : Nat} {f : Nat → Value} (h : w.rowIs b t n f) (hb : Below B w w') (hlt : b < B) : w'.rowIs b t n f := by
  obtain ⟨c, h1, h2, h3⟩ := h
  exact ⟨c, (hb.block b hlt).trans h1, h2, h3⟩
theorem tris_row {w : World} {g ty : Nat} {L : List Tri} (h : w.rowIs g ty (L.length * 3) (laidT L L.length)) : Tris w (g + 1) (some ⟨g, 0, none⟩) L := by
  intro i hi
  refine ⟨g, 0, rfl, by omega, ?_, ?_, ?_⟩
  · rw [Nat.zero_add, h.cell (by omega), show i * 3 = i * 3 + 0 by omega, laidT_at L hi (by omega)]; rfl
  · rw [Nat.zero_add, h.cell (by omega), laidT_at L hi (by omega)]; rfl
  · rw [Nat.zero_add, h.cell (by omega), laidT_at L hi (by omega)]; rfl
theorem made_tri (w : World) (n : Nat) : (w.alloc (.cells (madeCells (Value.agg #[.int .i64 0, .int .i64 0, .int .i64 0]).cells (n * 3)) 32)).rowIs w.heap.size 32 (n * 3) (fun _ => .int .i64 0) := by
  refine ⟨_, CellsAt.new w _ _, size_madeCells _ _, fun i hi => ?_⟩
  have hz : (Value.agg #[.int .i64 0, .int .i64 0, .int .i64 0]).cells = #[.int .i64 0, .int .i64 0, .int .i64 0] := rfl
  have h3 : i % 3 = 0 ∨ i % 3 = 1 ∨ i % 3 = 2 := by omega
  simp [madeCells, hz, hi]
  rcases h3 with h | h | h <;> simp [h]

theorem make_tri (n : Nat) (hn : n ≤ 1048576) (w : World) :
    (Instr.makeSlice 24 (.int .i64 (n : Int)) (.int .i64 (n : Int))).run Try.prog w = .ok (.slice (some ⟨w.heap.size, 0, none⟩) n n) (w.alloc (.cells (madeCells (Value.agg #[.int .i64 0, .int .i64 0, .int .i64 0]).cells (n * 3)) 32)) := by
  obtain ⟨i, hi, hzz⟩ := Option.map_eq_some_iff.1 info_tri
  simp only [Prod.mk.injEq] at hzz
  obtain ⟨hz, hs, hb⟩ := hzz
  have hr := run_make (P := Try.prog) w 24 32 i _ Try.underlying24 hi hz .i64 .i64 n n (by omega) (Int.le_refl _) (by rw [hb]; omega) (by omega)
  simp only [Int.toNat_natCast, hs] at hr
  exact hr

def CopyS (w : World) (L : List Tri) (e : Ending) (w' : World) : Prop :=
  ∃ A, e = .returned (.slice A L.length L.length) ∧ Below w.heap.size w w' ∧ Tris w' w'.heap.size A L

set_option maxHeartbeats 1000000 in
theorem toTris_calls (A : Option Addr) (L : List Tri) (cap : Nat) (w : World) (hn : L.length ≤ 1048576) (hA : Tris w w.heap.size A L) :
    Calls Try.prog 20 #[.slice A L.length cap] w (CopyS w L) := by
  have hmk := make_tri L.length hn
  have HA := Lib.hid hA
  clear hA
  go_enter Try.func20, Try.ntmps20
  go_wp2_with fail
  clear hmk
  go_loopw [4] (fun i wr => ∃ k : Nat, k ≤ L.length ∧ i = .int .i64 k ∧ Below w.heap.size w wr ∧ wr.rowIs w.heap.size 32 (L.length * 3) (laidT L k)) (fun i _ => L.length - (intOf i).toNat)
  case atStart =>
    exact ⟨0, Nat.zero_le _, rfl, (Below.refl _ _).alloc (Nat.le_refl _) _, (made_tri w L.length).congr (fun i hi => (laidT_zero L i).symm)⟩
  case round =>
    obtain ⟨k, hk, rfl, hbel, hrow⟩ := hrel
    have HB := Lib.hid hbel
    have HR := Lib.hid hrow
    clear hbel hrow
    have hg : w.heap.size < wr.heap.size := by
      obtain ⟨c, h1, _⟩ := HR.out
      exact (Array.getElem?_eq_some_iff.1 h1).1
    by_cases hlt : k < L.length
    · obtain ⟨b, off, rfl, hb, c0, c1, c2⟩ := (HA.out.below HB.out (Nat.le_refl _)) k hlt
      have hlt' : (k : Int) < L.length := by omega
      have hk0 : (0 : Int) ≤ k := by omega
      generalize hT : L.getD k (0, 0, 0) = T at c0 c1 c2
      obtain ⟨a, t, v⟩ := T
      have HT := Lib.hid (laidT_next L hT)
      clear hT
      simp only at c0 c1 c2
      go_wp2_with fail
      refine (toTriple_calls a t v _).mono ?_; rintro e w1 ⟨rfl, b1⟩
      have BX := Lib.hid (HB.out.trans (b1.mono HB.out.size))
      have hrow := rowIs_below HR.out b1 hg
      have HR1 := Lib.hid hrow
      have e0 := hrow.cell (i := k * 3) (by omega)
      have e1 := hrow.cell (i := k * 3 + 1) (by omega)
      have e2 := hrow.cell (i := k * 3 + 2) (by omega)
      have f0 := hrow.frozen (k * 3)
      have f1 := hrow.frozen (k * 3 + 1)
      have f2 := hrow.frozen (k * 3 + 2)
      clear b1 hrow c0 c1 c2
      go_wp2_with fail
      go_roundw
      case rel =>
        refine ⟨k + 1, by omega, by go_num, ((BX.out.setCell (Nat.le_refl _) _).setCell (Nat.le_refl _) _).setCell (Nat.le_refl _) _, ?_⟩
        exact (((HR1.out.set (k * 3) (.int .i64 a)).set (k * 3 + 1) (.int .i64 t)).set (k * 3 + 2) (.int .i64 v)).congr (fun i hi => (HT.out i).symm)
      case measure => simp [intOf]; omega
    · have hk' : k = L.length := by omega
      subst hk'
      go_wp2_with fail
      go_ret
      exact ⟨_, rfl, HB.out, (tris_row HR.out).more hg⟩
end Go.Proofs.Ytdljiccpppcljaa.Mx

import Derived.Test.YtjbnknccnhdapaaE06
import Derived.Test.YtjbnknccnhdapaaE02
import Derived.Test.YtjbnknccnhdapaaE01
import Derived.Test.YtjbnknccnhdapaaE04
import Derived.Great.BuildSlice
namespace Go.Proofs.Ytjbnknccnhdapaa.Mx
open Go.ChangeShapes Go.WideShapes Go.ChangeAt Go.RowKit
set_option linter.unusedVariables false
theorem szCellS_calls (A : Option Addr) (n cap : Nat) (left : Int) (w : World) (h0 : 0 ≤ left) (h1 : left ≤ 1048576) (hn : n ≤ maxLen) :
    Calls Try.prog 20 #[.slice A n cap, .int .i64 left] w fun e w' => e = .returned (.int .i64 (if (n : Int) ≤ left then left - n else -1)) ∧ w = w' := by
  unfold maxLen at hn
  by_cases h : (n : Int) ≤ left
  · rw [if_pos h]
    have h2 : ¬ left - n < 0 := by omega
    go_enter Try.func20, Try.ntmps20
    go_wp2
    go_ret
    exact ⟨rfl, rfl⟩
  · rw [if_neg h]
    have h2 : left - n < 0 := by omega
    go_enter Try.func20, Try.ntmps20
    go_wp2
    go_ret
    exact ⟨rfl, rfl⟩
set_option maxHeartbeats 4000000 in
theorem eqCellS_same (A C : Option Addr) (L : List Ce) (cap cap' : Nat) (w : World) (hn : L.length ≤ maxLen) (hA : Sls ceV 2 w w.heap.size A L) (hC : Sls ceV 2 w w.heap.size C L) :
    Calls Try.prog 30 #[.slice A L.length cap, .slice C L.length cap'] w fun e w' => e = .returned (.bool true) ∧ Below w.heap.size w w' := by
  have hm := hn
  unfold maxLen at hm
  have HA := Lib.hid hA
  have HC := Lib.hid hC
  clear hA hC hn
  go_enter Try.func30, Try.ntmps30
  go_wp2_with fail
  go_loopw [5] (fun i wr => ∃ k : Nat, k ≤ L.length ∧ i = .int .i64 k ∧ Below w.heap.size w wr) (fun i _ => L.length - (intOf i).toNat)
  case atStart => exact ⟨0, Nat.zero_le _, rfl, Below.refl _ _⟩
  case round =>
    obtain ⟨k, hk, rfl, hbel⟩ := hrel
    have HB := Lib.hid hbel
    clear hbel
    by_cases hlt : k < L.length
    · obtain ⟨b, off, rfl, hb, c0, c1⟩ := Cls.at_ (HA.out.below HB.out.drew (Nat.le_refl _)) hlt
      obtain ⟨b', off', rfl, hb', d0, d1⟩ := Cls.at_ (HC.out.below HB.out.drew (Nat.le_refl _)) hlt
      have hlt' : (k : Int) < L.length := by omega
      have hk0 : (0 : Int) ≤ k := by omega
      generalize L.getD k default = T at c0 c1 d0 d1
      go_wp2_with fail
      go_region_with (go_at_call 45; refine (eqCel_same T.1 T.2 _).mono ?_; rintro e wx ⟨rfl, bx⟩)
      all_goals
        have BX := Lib.hid (HB.out.drew.trans (bx.mono HB.out.drew.size))
        clear bx c0 c1 d0 d1
        go_wp2_with fail
        go_roundw
        case rel => exact ⟨k + 1, by omega, by go_num, BX.out⟩
        case measure => simp [intOf]; omega
    · go_wp2_with fail
      go_ret
      exact ⟨rfl, HB.out⟩
theorem laidCellS_next (L : List Ce) {k : Nat} {T : Ce} (h : L.getD k default = T) (i : Nat) :
    laidS ceV [.int .i64 0, .int .i64 0] 2 L (k + 1) i = if i = k * 2 + 1 then .int .i64 T.2 else if i = k * 2 then .int .i64 T.1 else laidS ceV [.int .i64 0, .int .i64 0] 2 L k i := by
  by_cases h1 : i = k * 2 + 1
  · subst h1; rw [if_pos rfl, laidS_at L (by omega) (by omega), h]; rfl
  · rw [if_neg h1]
    by_cases h0 : i = k * 2
    · subst h0; rw [if_pos rfl, show k * 2 = k * 2 + 0 from rfl, laidS_at L (by omega) (by omega), h]; rfl
    · rw [if_neg h0]
      exact laidS_off L (fun j hj e => by omega)
theorem made_CellS (w : World) (n : Nat) : (w.alloc (.cells (madeCells (Value.agg #[.int .i64 0, .int .i64 0]).cells (n * 2)) 73)).rowIs w.heap.size 73 (n * 2) (fun i => (([.int .i64 0, .int .i64 0] : List Value)[i % 2]?).getD undef) := by
  refine ⟨_, CellsAt.new w _ _, size_madeCells _ _, fun i hi => ?_⟩
  have hz : (Value.agg #[.int .i64 0, .int .i64 0]).cells = #[.int .i64 0, .int .i64 0] := rfl
  have h3 : i % 2 = 0 ∨ i % 2 = 1 := by omega
  simp [madeCells, hz, hi]
  rcases h3 with h | h <;> simp [h]
theorem make_CellS (n : Nat) (hn : n ≤ 1048576) (w : World) :
    (Instr.makeSlice 39 (.int .i64 (n : Int)) (.int .i64 (n : Int))).run Try.prog w = .ok (.slice (some ⟨w.heap.size, 0, none⟩) n n) (w.alloc (.cells (madeCells (Value.agg #[.int .i64 0, .int .i64 0]).cells (n * 2)) 73)) := by
  obtain ⟨i, hi, hzz⟩ := Option.map_eq_some_iff.1 info_cel
  simp only [Prod.mk.injEq] at hzz
  obtain ⟨hz, hs, hb⟩ := hzz
  have hr := run_make (P := Try.prog) w 39 73 i _ Try.underlying39 hi hz .i64 .i64 n n (by omega) (Int.le_refl _) (by rw [hb]; omega) (by omega)
  simp only [Int.toNat_natCast, hs] at hr
  exact hr
theorem sls_CellS {w : World} {g ty : Nat} {L : List Ce} (h : w.rowIs g ty (L.length * 2) (laidS ceV [.int .i64 0, .int .i64 0] 2 L L.length)) : Sls ceV 2 w (g + 1) (some ⟨g, 0, none⟩) L := by
  intro i hi
  refine ⟨g, 0, rfl, by omega, fun j hj => ?_⟩
  have hlt : i * 2 + j < L.length * 2 := by omega
  rw [Nat.zero_add, h.cell hlt, laidS_at L hi hj]
  obtain ⟨v, hv⟩ : ∃ v, (ceV (L.getD i default))[j]? = some v := ⟨_, List.getElem?_eq_getElem (show j < (ceV (L.getD i default)).length by rw [ceV_len]; exact hj)⟩
  rw [hv]; rfl
set_option maxHeartbeats 4000000 in
theorem toCellS_calls (A : Option Addr) (L : List Ce) (cap : Nat) (w : World) (hn : L.length ≤ 1048576) (hA : Sls ceV 2 w w.heap.size A L) :
    Calls Try.prog 25 #[.slice A L.length cap] w fun e w' => e = .returned (.slice (some ⟨w.heap.size, 0, none⟩) L.length L.length) ∧ Below w.heap.size w w' ∧ w.heap.size < w'.heap.size ∧ w'.rowIs w.heap.size 73 (L.length * 2) (laidS ceV [.int .i64 0, .int .i64 0] 2 L L.length) := by
  have hmk := make_CellS L.length hn
  have HA := Lib.hid hA
  clear hA
  go_enter Try.func25, Try.ntmps25
  go_wp2_with fail
  clear hmk
  go_loopw [4] (fun i wr => ∃ k : Nat, k ≤ L.length ∧ i = .int .i64 k ∧ Below w.heap.size w wr ∧ wr.rowIs w.heap.size 73 (L.length * 2) (laidS ceV [.int .i64 0, .int .i64 0] 2 L k)) (fun i _ => L.length - (intOf i).toNat)
  case atStart =>
    exact ⟨0, Nat.zero_le _, rfl, (Below.refl _ _).alloc (Nat.le_refl _) _, (made_CellS w L.length).congr (fun i hi => (laidS_zero _ _ _ L i).symm)⟩
  case round =>
    obtain ⟨k, hk, rfl, hbel, hrow⟩ := hrel
    have HB := Lib.hid hbel
    have HR := Lib.hid hrow
    clear hbel hrow
    have hg : w.heap.size < wr.heap.size := by
      obtain ⟨c, h1, _⟩ := HR.out
      exact (Array.getElem?_eq_some_iff.1 h1).1
    by_cases hlt : k < L.length
    · obtain ⟨b, off, rfl, hb, c0, c1⟩ := Cls.at_ (HA.out.below HB.out (Nat.le_refl _)) hlt
      have hlt' : (k : Int) < L.length := by omega
      have hk0 : (0 : Int) ≤ k := by omega
      generalize hT : L.getD k default = T at c0 c1
      have HT := Lib.hid (laidCellS_next L hT)
      clear hT
      go_wp2_with fail
      refine (toCell_calls T.1 T.2 _).mono ?_; rintro e w1 ⟨rfl, b1⟩
      have BX := Lib.hid (HB.out.trans (b1.mono HB.out.size))
      have hrow := rowS_below HR.out b1 hg
      have HR1 := Lib.hid hrow
      have e0 := hrow.cell (i := k * 2) (by omega)
      have f0 := hrow.frozen (k * 2)
      have e1 := hrow.cell (i := k * 2 + 1) (by omega)
      have f1 := hrow.frozen (k * 2 + 1)
      clear b1 hrow c0 c1
      go_wp2_with fail
      go_roundw
      case rel =>
        refine ⟨k + 1, by omega, by go_num, ((BX.out.setCell (Nat.le_refl _) _).setCell (Nat.le_refl _) _), ?_⟩
        exact (((HR1.out.set (k * 2) (.int .i64 T.1)).set (k * 2 + 1) (.int .i64 T.2))).congr (fun i hi => (HT.out i).symm)
      case measure => simp [intOf]; omega
    · have hk' : k = L.length := by omega
      subst hk'
      go_wp2_with fail
      go_ret
      exact ⟨rfl, HB.out, hg, HR.out⟩
end Go.Proofs.Ytjbnknccnhdapaa.Mx
namespace Go.Proofs.Ytjbnknccnhdapaa.Mx
open Go.ChangeShapes Go.WideShapes Go.ChangeAt Go.RowKit
set_option linter.unusedVariables false
theorem szSlot_calls (cnt mac : Int) (B C : Option Addr) (nt tc nc cc : Nat) (left : Int) (w : World) (h0 : 0 ≤ left) (h1 : left ≤ 1048576) (hn : nt ≤ maxLen) (hm : nc ≤ maxLen) :
    Calls Try.prog 6 #[.agg #[.int .i64 cnt, .slice B nt tc, .int .i64 mac, .slice C nc cc], .int .i64 left] w fun e w' => e = .returned (.int .i64 (if (nt : Int) + nc ≤ left then left - nt - nc else -1)) ∧ Below w.heap.size w w' := by
  have K0 := Lib.hid (show Kept w [(w.heap.size, 30, #[.int .i64 cnt, .slice B nt tc, .int .i64 mac, .slice C nc cc])] _ from (Kept.refl w).put1 _ _ #[.int .i64 cnt, .slice B nt tc, .int .i64 mac, .slice C nc cc] rfl)
  have S := Lib.hid (fun u => szSeal_calls cnt mac B nt tc left u h0 h1 hn)
  by_cases h : (nt : Int) ≤ left
  · rw [if_pos h] at S
    have h2 : ¬ left - nt < 0 := by omega
    have T := Lib.hid (fun u => szCellS_calls C nc cc (left - nt) u (by omega) (by omega) hm)
    by_cases h3 : (nt : Int) + nc ≤ left
    · rw [if_pos (by omega)] at T
      rw [if_pos h3]
      have h4 : ¬ left - nt - nc < 0 := by omega
      clear h h0 h1 hn hm h3
      go_enter Try.func6, Try.ntmps6
      go_wp2_with fail
      refine (S.out _).mono ?_; rintro e w1 ⟨rfl, b1⟩
      have h5 := K0.out.below b1
      clear b1 K0
      obtain ⟨kc0, kf0, -⟩ := h5.rd
      have H5 := Lib.hid h5
      clear h5
      go_wp2_with fail
      refine (T.out _).mono ?_; rintro e w' ⟨rfl, rfl⟩
      go_wp2_with fail
      go_ret
      exact ⟨rfl, H5.out.1⟩
    · rw [if_neg (by omega)] at T
      rw [if_neg h3]
      clear h h0 h1 hn hm h3
      go_enter Try.func6, Try.ntmps6
      go_wp2_with fail
      refine (S.out _).mono ?_; rintro e w1 ⟨rfl, b1⟩
      have h5 := K0.out.below b1
      clear b1 K0
      obtain ⟨kc0, kf0, -⟩ := h5.rd
      have H5 := Lib.hid h5
      clear h5
      go_wp2_with fail
      refine (T.out _).mono ?_; rintro e w' ⟨rfl, rfl⟩
      go_wp2_with fail
      go_ret
      exact ⟨rfl, H5.out.1⟩
  · rw [if_neg h] at S
    rw [if_neg (by omega)]
    clear h h0 h1 hn hm
    go_enter Try.func6, Try.ntmps6
    go_wp2_with fail
    refine (S.out _).mono ?_; rintro e w1 ⟨rfl, b1⟩
    have H5 := Lib.hid (K0.out.below b1)
    clear b1 K0
    go_wp2_with fail
    go_ret
    exact ⟨rfl, H5.out.1⟩
set_option maxRecDepth 20000 in
set_option maxHeartbeats 4000000 in
theorem eqSlot_same (cnt mac : Int) (B B' C C' : Option Addr) (L : List Tru) (M : List Ce) (tc tc' cc cc' : Nat) (w : World) (hn : L.length ≤ maxLen) (hm : M.length ≤ maxLen) (hB : Trs w w.heap.size B L) (hB' : Trs w w.heap.size B' L) (hC : Cls w w.heap.size C M) (hC' : Cls w w.heap.size C' M) :
    Calls Try.prog 12 #[.agg #[.int .i64 cnt, .slice B L.length tc, .int .i64 mac, .slice C M.length cc], .agg #[.int .i64 cnt, .slice B' L.length tc', .int .i64 mac, .slice C' M.length cc']] w fun e w' => e = .returned (.bool true) ∧ Below w.heap.size w w' := by
  have K0 := Lib.hid (show Kept w [(w.heap.size + 1, 41, #[.int .i64 cnt, .slice B' L.length tc', .int .i64 mac, .slice C' M.length cc']), (w.heap.size, 41, #[.int .i64 cnt, .slice B L.length tc, .int .i64 mac, .slice C M.length cc])] _ from (((Kept.refl w).put1 _ _ #[.int .i64 cnt, .slice B L.length tc, .int .i64 mac, .slice C M.length cc] rfl).put1 _ _ #[.int .i64 cnt, .slice B' L.length tc', .int .i64 mac, .slice C' M.length cc'] (by simp)))
  have E := Lib.hid (fun u (hb : Below w.heap.size w u) => eqSeal_same cnt mac B B' L tc tc' u hn ((hB.below hb (Nat.le_refl _)).more hb.size) ((hB'.below hb (Nat.le_refl _)).more hb.size))
  have G := Lib.hid (fun u (hb : Below w.heap.size w u) => eqCellS_same C C' M cc cc' u hm ((hC.below hb (Nat.le_refl _)).more hb.size) ((hC'.below hb (Nat.le_refl _)).more hb.size))
  clear hB hB' hC hC' hn hm
  go_enter Try.func12, Try.ntmps12
  go_wp2_with fail
  refine (E.out _ K0.out.1).mono ?_; rintro e w1 ⟨rfl, b1⟩
  have h1 := K0.out.below b1
  clear b1 K0 E
  obtain ⟨kc0, kf0, kc1, kf1, -⟩ := h1.rd
  have H1 := Lib.hid h1
  clear h1
  go_wp2_with fail
  refine (G.out _ H1.out.1).mono ?_; rintro e w2 ⟨rfl, b2⟩
  have H2 := Lib.hid (H1.out.below b2)
  clear b2 H1
  go_wp2_with fail
  go_ret
  exact ⟨rfl, H2.out.1⟩
end Go.Proofs.Ytjbnknccnhdapaa.Mx
namespace Go.Proofs.Ytjbnknccnhdapaa.Mx
open Go.ChangeShapes Go.WideShapes Go.ChangeAt Go.RowKit
set_option linter.unusedVariables false
def flagN (b : Bool) : Int := if b then 1 else 0
def macRow (t : Tru) : List Int := [t.clock, t.epoch, t.cursor, t.read, t.written, t.nread, t.nwritten, flagN t.failed]
def macList (count : Int) (L : List Tru) : List Int := [3, count, (L.length : Int)] ++ L.flatMap macRow
noncomputable def macOf (key : Int) (l : List Int) (count : Int) (L : List Tru) : Int :=
  open Classical in if planOk key l then mixOf key (macList count L) else -1
def TruI (t : Tru) : Prop := I64 t.clock ∧ I64 t.epoch ∧ I64 t.cursor ∧ I64 t.read ∧ I64 t.written ∧ I64 t.nread ∧ I64 t.nwritten
def TrusI (L : List Tru) : Prop := ∀ i, i < L.length → TruI (L.getD i default)
theorem flagN_i64 (b : Bool) : I64 (flagN b) := by cases b <;> (unfold flagN I64; simp)
theorem I64s.append {l m : List Int} (h : I64s l) (h2 : I64s m) : I64s (l ++ m) := by
  intro i hi
  rw [List.getD_eq_getElem?_getD]
  rcases Nat.lt_or_ge i l.length with hl | hl
  · rw [List.getElem?_append_left hl, ← List.getD_eq_getElem?_getD]; exact h i hl
  · rw [List.getElem?_append_right hl, ← List.getD_eq_getElem?_getD]; exact h2 _ (by rw [List.length_append] at hi; omega)
theorem macRow_i64 {t : Tru} (h : TruI t) : I64s (macRow t) := by
  obtain ⟨a, b, c, d, e, f, g⟩ := h
  have hf := flagN_i64 t.failed
  exact I64s.cons a.1 a.2 (I64s.cons b.1 b.2 (I64s.cons c.1 c.2 (I64s.cons d.1 d.2 (I64s.cons e.1 e.2 (I64s.cons f.1 f.2 (I64s.cons g.1 g.2 (I64s.cons hf.1 hf.2 I64s.nil)))))))
theorem takeT_succ {L : List Tru} {k : Nat} (h : k < L.length) : (L.take (k + 1)).flatMap macRow = (L.take k).flatMap macRow ++ macRow (L.getD k default) := by
  rw [List.take_succ_eq_append_getElem h, List.flatMap_append, List.getD_eq_getElem?_getD, List.getElem?_eq_getElem h]; simp
theorem macRow_len (L : List Tru) : (L.flatMap macRow).length = L.length * 8 := by
  induction L with
  | nil => rfl
  | cons t L ih => rw [List.flatMap_cons, List.length_append, ih, List.length_cons]; show 8 + _ = _; omega
theorem Row.below {w w' : World} {base t : Nat} {v : Value} {zs : List Int} (h : Row w base t v zs) (hb : Below w.heap.size w w') : Row w' base t v zs :=
  ⟨h.1.kept (below_gb hb none) (by cases e : v.ownBlock with | none => exact .inl rfl | some k => exact .inr (by intro e2; cases e2)), h.2⟩
theorem Kept.grownO {b w w' : World} {L : List Box} {r : Option Nat} (h : Kept b L w) (hg : w.grownBy w' r) (hr : ∀ k, r = some k → b.heap.size ≤ k ∧ ∀ x ∈ L, x.1 ≠ k) : Kept b L w' :=
  ⟨h.1.trans ((gr_below (B := b.heap.size) hg h.1.size (fun k hk => (hr k hk).1))), fun x hx => ⟨(h.2 x hx).1, (h.2 x hx).2.grown hg (by intro e; exact (hr x.1 e.symm).2 x hx rfl)⟩⟩
theorem Row.lit (w : World) (base : Nat) (zs : List Int) (hb : base ≤ w.heap.size) (hm : zs.length ≤ maxLen) (hi : I64s zs) : Row (w.alloc (.cells (zs.map (Value.int .i64)).toArray 2)) base 2 (.slice (some ⟨w.heap.size, 0, none⟩) zs.length zs.length) zs :=
  ⟨⟨by simp, .inr ⟨w.heap.size, zs.length, (zs.map (Value.int .i64)).toArray, rfl, hb, heap_alloc_last w _, Nat.le_refl _, hm, by simp, by simp only [Nat.mul_one]; rw [List.take_of_length_le (by simp)]⟩⟩, hi⟩
theorem l1Flag_calls (b : Bool) (w : World) : Calls Try.prog 48 #[.bool b] w fun e w' => e = .returned (.int .i64 (flagN b)) ∧ w = w' := by
  cases b
  all_goals
    go_enter Try.func48, Try.ntmps48
    go_wp2
    go_ret
    exact ⟨rfl, rfl⟩
def MacC (b : World) (L : List Box) (base : Nat) (p : Value) (zs ys : List Int) (cs : Array Value) (D : Nat → Bool) (γ : Nat → Value) (u : World) : Prop :=
  Kept b L u ∧ base ≤ u.heap.size ∧ (D 19 = false → Row u base 2 p zs) ∧ (D 18 = true → D 19 = false → ∃ g, γ 18 = .slice (some ⟨g, 0, none⟩) 8 8 ∧ CellsAt u g 2 cs) ∧ (D 19 = true → Row u base 2 (γ 19) (zs ++ ys)) ∧ (D 19 = true → D 18 = true)
theorem MacC.loc {b u : World} {L : List Box} {base : Nat} {p : Value} {zs ys : List Int} {cs : Array Value} {D : Nat → Bool} {γ γ' : Nat → Value} (ha : ∀ i, D i = true → γ i = γ' i) (h : MacC b L base p zs ys cs D γ u) : MacC b L base p zs ys cs D γ' u := by
  obtain ⟨h1, h2, h3, h4, h5, h6⟩ := h
  refine ⟨h1, h2, h3, fun d e => ?_, fun d => ?_, h6⟩
  · rw [← ha _ d]; exact h4 d e
  · rw [← ha _ d]; exact h5 d
set_option maxRecDepth 20000 in
set_option maxHeartbeats 4000000 in
theorem specMac_calls (key count : Int) (A C : Option Addr) (l : List Int) (cap : Nat) (L : List Tru) (cap2 : Nat) (w : World) (hn : l.length ≤ maxLen) (hA : Ints w .i64 w.heap.size A l) (hN : L.length ≤ 1048576) (hC : Trs w w.heap.size C L) (hI : TrusI L) (hc0 : I64 count) :
    Calls Try.prog 35 #[.agg #[.int .i64 key, .slice A l.length cap], .int .i64 count, .slice C L.length cap2] w fun e w' => e = .returned (.int .i64 (macOf key l count L)) ∧ Below w.heap.size w w' := by
  have K0 := Lib.hid (show Kept w [(w.heap.size, 34, #[.int .i64 key, .slice A l.length cap])] _ from (Kept.refl w).put1 _ _ #[.int .i64 key, .slice A l.length cap] rfl)
  have PO := Lib.hid (fun (u : World) (hb : Below w.heap.size w u) => specPlanOk_calls key A l cap u hn ((hA.below hb (Nat.le_refl _)).more hb.size))
  have HC := Lib.hid hC
  have HI := Lib.hid hI
  unfold macOf
  clear hA hC hn hI
  by_cases hp : planOk key l
  · rw [if_pos hp]
    rw [okB_yes hp] at PO
    clear hp
    go_enter Try.func35, Try.ntmps35
    go_wp2_with fail
    refine (PO.out _ K0.out.1).mono ?_; rintro e w1 ⟨rfl, b1⟩
    have h1 := K0.out.below b1
    have H1 := Lib.hid h1
    clear b1 K0
    obtain ⟨kc0, kf0, -⟩ := h1.rd
    have hs1 : w.heap.size + 1 ≤ w1.heap.size := h1.lt (x := (w.heap.size, 34, #[.int .i64 key, .slice A l.length cap])) (by simp)
    have RW := Lib.hid (Row.lit w1 (w.heap.size + 1) [3, count, (L.length : Int)] hs1 (by simp [maxLen]) (I64s.cons (by omega) (by omega) (I64s.cons hc0.1 hc0.2 (I64s.cons (by omega) (by omega) I64s.nil))))
    clear h1 hc0
    go_wp2_with fail
    clear kc0 kf0
    go_loopw [7, 8] (fun p i wr => ∃ (k : Nat) (q : Value), q = p ∧ k ≤ L.length ∧ i = .int .i64 k ∧ Row wr (w.heap.size + 1) 2 p ([3, count, (L.length : Int)] ++ (L.take k).flatMap macRow) ∧ Kept w [(w.heap.size, 34, #[.int .i64 key, .slice A l.length cap])] wr) (fun _ i _ => L.length - (intOf i).toNat)
    case atStart => exact ⟨0, _, rfl, Nat.zero_le _, rfl, RW.out, H1.out.below ((Below.refl _ _).alloc (Nat.le_refl _) _)⟩
    case round =>
      obtain ⟨k, p, rfl, hk, rfl, hrow, hz⟩ := hrel
      by_cases hlt : k < L.length
      · obtain ⟨b, off, rfl, hb, hc⟩ := HC.out.at_ hlt
        have hlt' : (k : Int) < L.length := by omega
        have hk0 : (0 : Int) ≤ k := by omega
        have hti := HI.out k hlt
        have HS := Lib.hid (takeT_succ hlt)
        have hln := macRow_len (L.take k)
        rw [List.length_take, Nat.min_eq_left hk] at hln
        have HL := Lib.hid hln
        clear hln
        generalize L.getD k default = t at hc hti HS
        generalize (L.take k).flatMap macRow = ms at hrow HS HL
        generalize hzs : [3, count, (L.length : Int)] ++ ms = zs at hrow
        have HZ := Lib.hid hzs
        have hzl : zs.length = 3 + k * 8 := by rw [← hzs, List.length_append, HL.out]; rfl
        clear hzs
        have HZL := Lib.hid hzl
        clear hzl
        have TI := Lib.hid hti
        clear hti
        have hs2 : w.heap.size + 1 ≤ wr.heap.size := hz.lt (x := (w.heap.size, 34, #[.int .i64 key, .slice A l.length cap])) (by simp)
        obtain ⟨c0, c1, c2, c3, c4, c5, c6, c7⟩ := hc.below hz.1 hb
        go_upto_region 8 with fail
        clear c0 c1 c2 c3 c4 c5 c6 c7
        have hne : ∀ g, p.ownBlock = some g → w.heap.size + 1 ≤ g ∧ g < wr.heap.size := fun g hg => hrow.1.lt g hg
        have hz2 := hz.put1 wr.heap.size 84 #[.int .i64 t.clock, .int .i64 t.epoch, .int .i64 t.cursor, .int .i64 t.read, .int .i64 t.written, .int .i64 t.nread, .int .i64 t.nwritten, .bool t.failed] rfl
        have hr2 : Row (wr.alloc (.cells #[.int .i64 t.clock, .int .i64 t.epoch, .int .i64 t.cursor, .int .i64 t.read, .int .i64 t.written, .int .i64 t.nread, .int .i64 t.nwritten, .bool t.failed] 84)) (w.heap.size + 1) 2 p zs := hrow.below ((Below.refl _ _).alloc (Nat.le_refl _) _)
        have HM := Lib.hid (show ∀ γ, MacC w [(wr.heap.size, 84, #[.int .i64 t.clock, .int .i64 t.epoch, .int .i64 t.cursor, .int .i64 t.read, .int .i64 t.written, .int .i64 t.nread, .int .i64 t.nwritten, .bool t.failed]), (w.heap.size, 34, #[.int .i64 key, .slice A l.length cap])] (w.heap.size + 1) p zs (macRow t) #[.int .i64 t.clock, .int .i64 t.epoch, .int .i64 t.cursor, .int .i64 t.read, .int .i64 t.written, .int .i64 t.nread, .int .i64 t.nwritten, .int .i64 (flagN t.failed)] (fun _ => false) γ (wr.alloc (.cells #[.int .i64 t.clock, .int .i64 t.epoch, .int .i64 t.cursor, .int .i64 t.read, .int .i64 t.written, .int .i64 t.nread, .int .i64 t.nwritten, .bool t.failed] 84)).drew from fun γ => ⟨hz2.drew, by simp; omega, fun _ => ⟨hr2.1.drew, hr2.2⟩, fun e => (by cases e), fun e => (by cases e), fun e => (by cases e)⟩)
        clear hrow hz hz2 hr2
        have hlf : L.length ≤ 1048576 := hN
        refine wp_region_free [false, false, false, false, false, false, false, false, false, false, false, false, false, false, false, false, false, true, true, true, false] (fun i v => (i = 17 → v = .int .i64 (flagN t.failed)) ∧ (i = 18 → ∃ g : Nat, v = .slice (some ⟨g, 0, none⟩) 8 8)) (fun D γ u => MacC w [(wr.heap.size, 84, #[.int .i64 t.clock, .int .i64 t.epoch, .int .i64 t.cursor, .int .i64 t.read, .int .i64 t.written, .int .i64 t.nread, .int .i64 t.nwritten, .bool t.failed]), (w.heap.size, 34, #[.int .i64 key, .slice A l.length cap])] (w.heap.size + 1) p zs (macRow t) #[.int .i64 t.clock, .int .i64 t.epoch, .int .i64 t.cursor, .int .i64 t.read, .int .i64 t.written, .int .i64 t.nread, .int .i64 t.nwritten, .int .i64 (flagN t.failed)] D γ u) (by kernel_rfl) (by kernel_rfl) (fun γ => by kernel_rfl) (fun D γ γ' w ha h => h.loc ha) (fun i => ?inh) HM.out (fun γ hγ => ?_)
        case inh =>
          by_cases h1 : i = 17
          · subst h1; exact ⟨_, fun _ => rfl, fun e => by cases e⟩
          · exact ⟨.slice (some ⟨0, 0, none⟩) 8 8, fun e => absurd e h1, fun _ => ⟨0, rfl⟩⟩
        have g17 : γ 17 = .int .i64 (flagN t.failed) := (hγ 17 rfl).1 rfl
        obtain ⟨gb, g18⟩ := (hγ 18 rfl).2 rfl
        obtain ⟨vv, g19⟩ : ∃ v, v = γ 19 := ⟨_, rfl⟩
        apply Exists.intro
        refine ⟨fun D => ?_, ?_, ?_⟩
        · simp only [hushL, cond_true, cond_false, Nat.reduceAdd, g17, g18, ← g19]
          iterate 21 (first
            | go_big_quiet_skip
            | (go_big_quiet_want
               go_big_quiet_op
               first
                 | go_big_quiet_on
                 | (apply Exists.intro
                    refine ⟨fun u hu => ?_, ?_⟩
                    · first
                        | with_reducible rfl
                        | (obtain ⟨kc0, kf0, kc1, kf1, -⟩ := hu.1.rd; go_simp; first | done | with_reducible rfl)
                    go_big_quiet_on)))
          exact wpQuiet_nil rfl
        · simp only [freeOk, Nat.reduceAdd]
          refine ⟨fun D u hD hd hu => ?_, fun D u hD hd hu => ?_, fun D u hD hd hu => ?_, trivial⟩
          · refine steps_call ((l1Flag_calls t.failed u).mono fun e w' ⟨he, hw⟩ => ⟨_, he, ⟨fun _ => rfl, fun e => by cases e⟩, ?_⟩) rfl rfl rfl rfl (by kernel_rfl)
            subst hw
            exact MacC.loc (γ := γ) (D := setD D 17) (fun i hi => by unfold setG; by_cases h : i = 17; rotate_left; rw [if_neg h]; subst h; rw [if_pos rfl]; exact g17) ⟨hu.1, hu.2.1, fun e => hu.2.2.1 (by simpa [setD] using e), fun e1 e2 => hu.2.2.2.1 (by simpa [setD] using e1) (by simpa [setD] using e2), fun e => hu.2.2.2.2.1 (by simpa [setD] using e), fun e => by have := hu.2.2.2.2.2 (by simpa [setD] using e); simp [setD, this]⟩
          · have e2 : D 19 = false := by
              cases h19 : D 19 with
              | false => rfl
              | true => have := hu.2.2.2.2.2 h19; rw [hD] at this; cases this
            have hrow := hu.2.2.1 e2
            refine steps_build 22 2 8 1 8 (.int .i64 0) _ #[.int .i64 t.clock, .int .i64 t.epoch, .int .i64 t.cursor, .int .i64 t.read, .int .i64 t.written, .int .i64 t.nread, .int .i64 t.nwritten, .int .i64 (flagN t.failed)] rfl Try.underlying22 info_i64 (by omega) (by omega) (by simp [Instr.fill, go_sem]) ⟨⟨fun e => (by cases e), fun _ => ⟨_, rfl⟩⟩, ?_⟩
            have ha : Below u.heap.size u (u.alloc (.cells #[.int .i64 t.clock, .int .i64 t.epoch, .int .i64 t.cursor, .int .i64 t.read, .int .i64 t.written, .int .i64 t.nread, .int .i64 t.nwritten, .int .i64 (flagN t.failed)] 2)) := (Below.refl _ _).alloc (Nat.le_refl _) _
            exact ⟨hu.1.below ha, Nat.le_trans hu.2.1 ha.size, fun _ => hrow.below ha, fun _ _ => ⟨_, by unfold setG; rw [if_pos rfl], CellsAt.new u 2 #[.int .i64 t.clock, .int .i64 t.epoch, .int .i64 t.cursor, .int .i64 t.read, .int .i64 t.written, .int .i64 t.nread, .int .i64 t.nwritten, .int .i64 (flagN t.failed)]⟩, fun e => by (simp [setD, e2] at e), fun _ => by simp [setD]⟩
          · have dk := hd { on := 18, ground := Ground.data } (by simp) rfl rfl
            obtain ⟨g0, e1, hcg⟩ := hu.2.2.2.1 dk hD
            obtain rfl : gb = g0 := by rw [g18] at e1; simpa using e1
            have hrow := hu.2.2.1 hD
            have hnews := World.news_of_block (w := u) (B := gb) (cs := #[.int .i64 t.clock, .int .i64 t.epoch, .int .i64 t.cursor, .int .i64 t.read, .int .i64 t.written, .int .i64 t.nread, .int .i64 t.nwritten, .int .i64 (flagN t.failed)]) (t := 2) hcg
            refine steps_append _ _ 22 rfl (w.heap.size + 1) 2 1 8 zs.length (.int .i64 0) p (zs.map (Value.int .i64)) (some ⟨gb, 0, none⟩) 8 8 (#[.int .i64 t.clock, .int .i64 t.epoch, .int .i64 t.cursor, .int .i64 t.read, .int .i64 t.written, .int .i64 t.nread, .int .i64 t.nwritten, .int .i64 (flagN t.failed)] : Array Value).toList Try.underlying22 info_i64 rfl (by omega) rfl hrow.1 rfl rfl (fun j v hv => ⟨_, rfl, hnews j v hv⟩) (by intro v hv; simp at hv; rcases hv with rfl | rfl | rfl | rfl | rfl | rfl | rfl | rfl <;> rfl) (by rw [HZL.out]; unfold maxLen; omega) (by rw [HZL.out]; omega) hu.2.1 ?_
            intro v' w' hown hg _
            have hk2 := hu.1.grownO hg (fun g e => ⟨by have := (hne g e).1; omega, by intro y hy; simp at hy; rcases hy with rfl | rfl <;> (have := hne g e; simp; omega)⟩)
            exact ⟨⟨fun e => (by cases e), fun e => (by cases e)⟩, hk2, Nat.le_trans hu.2.1 hg.size, fun e => by (simp [setD] at e), fun _ e => by (simp [setD] at e), fun _ => ⟨by unfold setG; rw [if_pos rfl, List.length_append, List.map_append]; exact hown, I64s.append hrow.2 (macRow_i64 TI.out)⟩, fun _ => by simp [setD, dk]⟩
        · intro D u hD hu
          have hrw := hu.2.2.2.2.1 (hD 19 (by simp) rfl)
          rw [← g19] at hrw
          have hkp := hu.1.sub (L' := [(w.heap.size, 34, #[.int .i64 key, .slice A l.length cap])]) (by intro y hy; simp at hy ⊢; right; exact hy)
          clear hu hD
          go_wp2_with fail
          go_roundw
          case rel => exact ⟨k + 1, _, rfl, by omega, by go_num, by have h := hrw; rw [← HZ.out] at h; rw [HS.out]; simpa [List.append_assoc] using h, hkp⟩
          case measure => simp [intOf]; omega
      · have hk' : k = L.length := by omega
        subst hk'
        have hr2 := hrow
        rw [List.take_length] at hr2
        obtain ⟨B, c, rfl, hI⟩ := hr2.reads
        have hlen : ([3, count, (L.length : Int)] ++ L.flatMap macRow).length = 3 + L.length * 8 := by rw [List.length_append, macRow_len]; rfl
        have MX := Lib.hid (fun u hI => specMix_calls key B ([3, count, (L.length : Int)] ++ L.flatMap macRow) c wr.heap.size u (by rw [hlen]; unfold maxLen; omega) hI hr2.2)
        rw [show mixOf key ([3, count, (L.length : Int)] ++ L.flatMap macRow) = mixOf key (macList count L) from rfl] at MX
        have HIN := Lib.hid hI
        have HZ := Lib.hid hz
        have hne : ¬ (L.length : Int) < L.length := by omega
        obtain ⟨mx, hmx⟩ : ∃ m, m = mixOf key (macList count L) := ⟨_, rfl⟩
        rw [← hmx] at MX
        have HMX := Lib.hid hmx
        clear hmx
        generalize ([3, count, (L.length : Int)] ++ L.flatMap macRow).length = zl at MX
        clear hrow hr2 hI
        obtain ⟨kc0, kf0, -⟩ := hz.rd
        clear hz
        go_wp2_with fail
        refine (MX.out _ HIN.out).mono ?_; rintro e w2 ⟨rfl, rfl⟩
        go_wp2_with fail
        go_ret
        exact ⟨by rw [← HMX.out]; rfl, HZ.out.1⟩
  · rw [if_neg hp]
    rw [okB_no hp] at PO
    clear hp
    go_enter Try.func35, Try.ntmps35
    go_wp2_with fail
    refine (PO.out _ K0.out.1).mono ?_; rintro e w1 ⟨rfl, b1⟩
    have h1 := K0.out.below b1
    clear b1 K0
    go_wp2_with fail
    go_ret
    exact ⟨rfl, h1.1⟩
end Go.Proofs.Ytjbnknccnhdapaa.Mx
namespace Go.Proofs.Ytjbnknccnhdapaa.Mx
open Go.ChangeShapes Go.WideShapes Go.ChangeAt Go.RowKit
set_option linter.unusedVariables false
noncomputable def sealB (key : Int) (l : List Int) (cnt : Int) (L : List Tru) (mac : Int) : Bool := trustsB key l L && decide (0 ≤ cnt ∧ cnt ≤ 10000) && decide (mac = macOf key l cnt L)
noncomputable def slotB (key : Int) (l : List Int) (cnt : Int) (L : List Tru) (mac : Int) (M : List Ce) : Bool := sealB key l cnt L mac && cellsB key l M
set_option maxRecDepth 20000 in
set_option maxHeartbeats 4000000 in
theorem specSealOk_calls (key : Int) (A : Option Addr) (l : List Int) (cap : Nat) (cnt : Int) (B : Option Addr) (L : List Tru) (tc : Nat) (mac : Int) (w : World) (hn : l.length ≤ maxLen) (hA : Ints w .i64 w.heap.size A l) (hN : L.length ≤ 1048576) (hB : Trs w w.heap.size B L) (hI : TrusI L) (hc0 : I64 cnt) :
    Calls Try.prog 21 #[.agg #[.int .i64 key, .slice A l.length cap], .agg #[.int .i64 cnt, .slice B L.length tc, .int .i64 mac]] w fun e w' => e = .returned (.bool (sealB key l cnt L mac)) ∧ Below w.heap.size w w' := by
  have K0 := Lib.hid (show Kept w [(w.heap.size + 1, 38, #[.int .i64 cnt, .slice B L.length tc, .int .i64 mac]), (w.heap.size, 34, #[.int .i64 key, .slice A l.length cap])] _ from (((Kept.refl w).put1 _ _ #[.int .i64 key, .slice A l.length cap] rfl).put1 _ _ #[.int .i64 cnt, .slice B L.length tc, .int .i64 mac] (by simp)))
  have TS := Lib.hid (fun (u : World) (hb : Below w.heap.size w u) => l10Trusts_calls key A B l cap L tc u hn ((hA.below hb (Nat.le_refl _)).more hb.size) (by unfold maxLen; omega) ((hB.below hb (Nat.le_refl _)).more hb.size))
  have MC := Lib.hid (fun (u : World) (hb : Below w.heap.size w u) => specMac_calls key cnt A B l cap L tc u hn ((hA.below hb (Nat.le_refl _)).more hb.size) hN ((hB.below hb (Nat.le_refl _)).more hb.size) hI hc0)
  have IN := Lib.hid (fun (u : World) => l1In_b cnt 0 10000 _ u rfl)
  clear hA hB hN hI hc0 hn
  unfold sealB
  generalize trustsB key l L = ts at TS ⊢
  generalize macOf key l cnt L = mo at MC ⊢
  cases ts with
  | false =>
    rw [Bool.false_and, Bool.false_and]
    clear MC IN
    go_enter Try.func21, Try.ntmps21
    go_upto_region 1 with fail
    refine wp_region_class (C := fun u => Kept w [(w.heap.size + 1, 38, #[.int .i64 cnt, .slice B L.length tc, .int .i64 mac]), (w.heap.size, 34, #[.int .i64 key, .slice A l.length cap])] u) (by kernel_rfl) (by kernel_rfl) (K0.out).drew ?_
    iterate 21 (first
      | go_big_quiet_skip
      | (go_big_quiet_want
         go_big_quiet_op
         first
           | go_big_quiet_on
           | (apply Exists.intro
              refine ⟨fun u hu => ?_, ?_⟩
              · first
                  | with_reducible rfl
                  | (go_at_call 33; exact (TS.out u hu.1).mono fun e w' h => ⟨h.1, hu.below h.2⟩)
                  | (obtain ⟨kc0, kf0, kc1, kf1, -⟩ := hu.rd; go_simp; first | done | with_reducible rfl)
              go_big_quiet_on)))
    refine wpQuiet_nil ?_
    intro uq hq
    go_wp2_with fail
    go_ret
    exact ⟨rfl, hq.1⟩
  | true =>
    rw [Bool.true_and]
    by_cases hr : 0 ≤ cnt ∧ cnt ≤ 10000
    · rw [decide_eq_true hr] at IN ⊢
      rw [Bool.true_and]
      clear hr
      by_cases hm : mac = mo
      · have hb : (mac == mo) = true := beq_iff_eq.2 hm
        rw [decide_eq_true hm]
        clear hm
        go_enter Try.func21, Try.ntmps21
        go_upto_region 1 with fail
        refine wp_region_class (C := fun u => Kept w [(w.heap.size + 1, 38, #[.int .i64 cnt, .slice B L.length tc, .int .i64 mac]), (w.heap.size, 34, #[.int .i64 key, .slice A l.length cap])] u) (by kernel_rfl) (by kernel_rfl) (K0.out).drew ?_
        iterate 21 (first
          | go_big_quiet_skip
          | (go_big_quiet_want
             go_big_quiet_op
             first
               | go_big_quiet_on
               | (apply Exists.intro
                  refine ⟨fun u hu => ?_, ?_⟩
                  · first
                      | with_reducible rfl
                      | (go_at_call 33; exact (TS.out u hu.1).mono fun e w' h => ⟨h.1, hu.below h.2⟩)
                      | (go_at_call 34; exact class_same hu (IN.out u))
                      | (go_at_call 35; exact (MC.out u hu.1).mono fun e w' h => ⟨h.1, hu.below h.2⟩)
                      | (obtain ⟨kc0, kf0, kc1, kf1, -⟩ := hu.rd; go_simp; first | done | with_reducible rfl)
                  go_big_quiet_on)))
        refine wpQuiet_nil ?_
        intro uq hq
        go_wp2_with fail
        go_ret
        exact ⟨rfl, hq.1⟩
      · have hb : (mac == mo) = false := beq_false_of_ne hm
        rw [decide_eq_false hm]
        clear hm
        go_enter Try.func21, Try.ntmps21
        go_upto_region 1 with fail
        refine wp_region_class (C := fun u => Kept w [(w.heap.size + 1, 38, #[.int .i64 cnt, .slice B L.length tc, .int .i64 mac]), (w.heap.size, 34, #[.int .i64 key, .slice A l.length cap])] u) (by kernel_rfl) (by kernel_rfl) (K0.out).drew ?_
        iterate 21 (first
          | go_big_quiet_skip
          | (go_big_quiet_want
             go_big_quiet_op
             first
               | go_big_quiet_on
               | (apply Exists.intro
                  refine ⟨fun u hu => ?_, ?_⟩
                  · first
                      | with_reducible rfl
                      | (go_at_call 33; exact (TS.out u hu.1).mono fun e w' h => ⟨h.1, hu.below h.2⟩)
                      | (go_at_call 34; exact class_same hu (IN.out u))
                      | (go_at_call 35; exact (MC.out u hu.1).mono fun e w' h => ⟨h.1, hu.below h.2⟩)
                      | (obtain ⟨kc0, kf0, kc1, kf1, -⟩ := hu.rd; go_simp; first | done | with_reducible rfl)
                  go_big_quiet_on)))
        refine wpQuiet_nil ?_
        intro uq hq
        go_wp2_with fail
        go_ret
        exact ⟨rfl, hq.1⟩
    · rw [decide_eq_false hr] at IN ⊢
      rw [Bool.false_and]
      clear hr MC
      go_enter Try.func21, Try.ntmps21
      go_upto_region 1 with fail
      refine wp_region_class (C := fun u => Kept w [(w.heap.size + 1, 38, #[.int .i64 cnt, .slice B L.length tc, .int .i64 mac]), (w.heap.size, 34, #[.int .i64 key, .slice A l.length cap])] u) (by kernel_rfl) (by kernel_rfl) (K0.out).drew ?_
      iterate 21 (first
        | go_big_quiet_skip
        | (go_big_quiet_want
           go_big_quiet_op
           first
             | go_big_quiet_on
             | (apply Exists.intro
                refine ⟨fun u hu => ?_, ?_⟩
                · first
                    | with_reducible rfl
                    | (go_at_call 33; exact (TS.out u hu.1).mono fun e w' h => ⟨h.1, hu.below h.2⟩)
                    | (go_at_call 34; exact class_same hu (IN.out u))
                    | (obtain ⟨kc0, kf0, kc1, kf1, -⟩ := hu.rd; go_simp; first | done | with_reducible rfl)
                go_big_quiet_on)))
      refine wpQuiet_nil ?_
      intro uq hq
      go_wp2_with fail
      go_ret
      exact ⟨rfl, hq.1⟩
set_option maxRecDepth 20000 in
set_option maxHeartbeats 2000000 in
theorem specSlotOk_calls (key : Int) (A : Option Addr) (l : List Int) (cap : Nat) (cnt : Int) (B : Option Addr) (L : List Tru) (tc : Nat) (mac : Int) (C : Option Addr) (M : List Ce) (cc : Nat) (w : World) (hn : l.length ≤ maxLen) (hA : Ints w .i64 w.heap.size A l) (hN : L.length ≤ 1048576) (hB : Trs w w.heap.size B L) (hI : TrusI L) (hc0 : I64 cnt) (hM : M.length ≤ 1048576) (hC : Cls w w.heap.size C M) :
    Calls Try.prog 7 #[.agg #[.int .i64 key, .slice A l.length cap], .agg #[.int .i64 cnt, .slice B L.length tc, .int .i64 mac, .slice C M.length cc]] w fun e w' => e = .returned (.bool (slotB key l cnt L mac M)) ∧ Below w.heap.size w w' := by
  have K0 := Lib.hid (show Kept w [(w.heap.size + 1, 41, #[.int .i64 cnt, .slice B L.length tc, .int .i64 mac, .slice C M.length cc]), (w.heap.size, 34, #[.int .i64 key, .slice A l.length cap])] _ from (((Kept.refl w).put1 _ _ #[.int .i64 key, .slice A l.length cap] rfl).put1 _ _ #[.int .i64 cnt, .slice B L.length tc, .int .i64 mac, .slice C M.length cc] (by simp)))
  have SO := Lib.hid (fun (u : World) (hb : Below w.heap.size w u) => specSealOk_calls key A l cap cnt B L tc mac u hn ((hA.below hb (Nat.le_refl _)).more hb.size) hN ((hB.below hb (Nat.le_refl _)).more hb.size) hI hc0)
  have CL := Lib.hid (fun (u : World) (hb : Below w.heap.size w u) => l11Cells_calls key A C l cap M cc u hn ((hA.below hb (Nat.le_refl _)).more hb.size) (by unfold maxLen; omega) ((hC.below hb (Nat.le_refl _)).more hb.size))
  clear hA hB hN hI hc0 hn hC hM
  unfold slotB
  generalize sealB key l cnt L mac = so at SO ⊢
  generalize cellsB key l M = co at CL ⊢
  cases so with
  | false =>
    rw [Bool.false_and]
    clear CL
    go_enter Try.func7, Try.ntmps7
    go_wp2_with fail
    refine (SO.out _ K0.out.1).mono ?_; rintro e uz1 ⟨rfl, bz2⟩
    have hz3 := K0.out.below bz2
    clear bz2
    obtain ⟨kc0, kf0, kc1, kf1, -⟩ := hz3.rd
    go_wp2_with fail
    go_ret
    exact ⟨rfl, hz3.1⟩
  | true =>
    rw [Bool.true_and]
    go_enter Try.func7, Try.ntmps7
    go_wp2_with fail
    refine (SO.out _ K0.out.1).mono ?_; rintro e uz1 ⟨rfl, bz2⟩
    have hz3 := K0.out.below bz2
    clear bz2
    obtain ⟨kc0, kf0, kc1, kf1, -⟩ := hz3.rd
    go_wp2_with fail
    refine (CL.out _ hz3.1).mono ?_; rintro e uz4 ⟨rfl, bz5⟩
    have hz6 := hz3.below bz5
    clear bz5 hz3 kc0 kf0 kc1 kf1
    obtain ⟨kc0, kf0, kc1, kf1, -⟩ := hz6.rd
    go_wp2_with fail
    go_ret
    exact ⟨rfl, hz6.1⟩
end Go.Proofs.Ytjbnknccnhdapaa.Mx

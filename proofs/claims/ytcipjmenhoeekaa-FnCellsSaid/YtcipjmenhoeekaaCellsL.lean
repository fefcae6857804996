/- THE WALK OF laws.FnCells, GIVEN WHAT THE CODE'S FOUR FUNCTIONS ANSWER: it returns true at every code, and writes nothing that was there. -/
import Derived.Test.YtcipjmenhoeekaaCellL
import Derived.Test.YtcipjmenhoeekaaDrawN
import Derived.Test.YtcipjmenhoeekaaStreamC
import Derived.Test.YtcipjmenhoeekaaDice
import Derived.Test.YtcipjmenhoeekaaMixedL
import Derived.Deep.RegionHeld3
namespace Go.Proofs.Ytcipjmenhoeekaa.Mx
open Go.ChangeShapes Go.WideShapes Go.ChangeAt Go.RowKit
set_option linter.unusedVariables false

theorem celGuard : Try.prog.eqGuardType Try.prog.depth 27 = false := by kernel_rfl
theorem celStood : Try.prog.stoodInHeld 27 = false := by kernel_rfl
theorem ceqIn (t v : Int) (w : World) : (Op.equalIn 10000 27 (.agg #[.int .i64 t, .int .i64 v]) (.agg #[.int .i64 t, .int .i64 v])).run Try.prog w = .ok true w := by
  rw [run_equalIn_agg w 9999 27 _ _ (by kernel_rfl) celStood]
  simp [Program.fieldsOf, Try.underlying27, Try.underlying2, Op.eqFields, go_sem]
theorem treGuard : Try.prog.eqGuardType Try.prog.depth 35 = false := by kernel_rfl
theorem treStood : Try.prog.stoodInHeld 35 = false := by kernel_rfl
theorem treqIn (a t v : Int) (w : World) : (Op.equalIn 10000 35 (.agg #[.int .i64 a, .int .i64 t, .int .i64 v]) (.agg #[.int .i64 a, .int .i64 t, .int .i64 v])).run Try.prog w = .ok true w := by
  rw [run_equalIn_agg w 9999 35 _ _ (by kernel_rfl) treStood]
  simp [Program.fieldsOf, Try.underlying35, Try.underlying2, Op.eqFields, go_sem]

/-- Since world b nothing that was there has turned; three blocks hold three cells. -/
def ThreeCel (b : World) (p q r : Nat) (x y x' y' x2 y2 : Int) (w' : World) : Prop :=
  Below b.heap.size b w' ∧ CellsAt w' p 27 #[.int .i64 x, .int .i64 y] ∧ CellsAt w' q 27 #[.int .i64 x', .int .i64 y'] ∧ CellsAt w' r 27 #[.int .i64 x2, .int .i64 y2]
theorem ThreeCel.cells {b : World} {p q r : Nat} {x y x' y' x2 y2 : Int} {w : World} (h : ThreeCel b p q r x y x' y' x2 y2 w) :
    (w.cell? ⟨p, 0, none⟩ = some (.int .i64 x) ∧ w.cell? ⟨p, 1, none⟩ = some (.int .i64 y) ∧ w.cell? ⟨q, 0, none⟩ = some (.int .i64 x') ∧ w.cell? ⟨q, 1, none⟩ = some (.int .i64 y') ∧ w.cell? ⟨r, 0, none⟩ = some (.int .i64 x2) ∧ w.cell? ⟨r, 1, none⟩ = some (.int .i64 y2)) ∧ ThreeCel b p q r x y x' y' x2 y2 w :=
  ⟨⟨h.2.1.cell 0, h.2.1.cell 1, h.2.2.1.cell 0, h.2.2.1.cell 1, h.2.2.2.cell 0, h.2.2.2.cell 1⟩, h⟩
theorem ThreeCel.keep {b : World} {p q r : Nat} {x y x' y' x2 y2 : Int} {u w : World} (hb : Below u.heap.size u w)
    (h : (u.cell? ⟨p, 0, none⟩ = some (.int .i64 x) ∧ u.cell? ⟨p, 1, none⟩ = some (.int .i64 y) ∧ u.cell? ⟨q, 0, none⟩ = some (.int .i64 x') ∧ u.cell? ⟨q, 1, none⟩ = some (.int .i64 y') ∧ u.cell? ⟨r, 0, none⟩ = some (.int .i64 x2) ∧ u.cell? ⟨r, 1, none⟩ = some (.int .i64 y2)) ∧ ThreeCel b p q r x y x' y' x2 y2 u) :
    (w.cell? ⟨p, 0, none⟩ = some (.int .i64 x) ∧ w.cell? ⟨p, 1, none⟩ = some (.int .i64 y) ∧ w.cell? ⟨q, 0, none⟩ = some (.int .i64 x') ∧ w.cell? ⟨q, 1, none⟩ = some (.int .i64 y') ∧ w.cell? ⟨r, 0, none⟩ = some (.int .i64 x2) ∧ w.cell? ⟨r, 1, none⟩ = some (.int .i64 y2)) ∧ ThreeCel b p q r x y x' y' x2 y2 w :=
  ThreeCel.cells ⟨h.2.1.trans (hb.mono h.2.1.size), h.2.2.1.below hb h.2.2.1.lt, h.2.2.2.1.below hb h.2.2.2.1.lt, h.2.2.2.2.below hb h.2.2.2.2.lt⟩
def OneCel (b : World) (p : Nat) (x y : Int) (w' : World) : Prop := Below b.heap.size b w' ∧ CellsAt w' p 27 #[.int .i64 x, .int .i64 y]
theorem OneCel.cells {b : World} {p : Nat} {x y : Int} {w : World} (h : OneCel b p x y w) :
    (w.cell? ⟨p, 0, none⟩ = some (.int .i64 x) ∧ w.cell? ⟨p, 1, none⟩ = some (.int .i64 y)) ∧ OneCel b p x y w := ⟨⟨h.2.cell 0, h.2.cell 1⟩, h⟩
theorem OneCel.keep {b : World} {p : Nat} {x y : Int} {u w : World} (hb : Below u.heap.size u w)
    (h : (u.cell? ⟨p, 0, none⟩ = some (.int .i64 x) ∧ u.cell? ⟨p, 1, none⟩ = some (.int .i64 y)) ∧ OneCel b p x y u) :
    (w.cell? ⟨p, 0, none⟩ = some (.int .i64 x) ∧ w.cell? ⟨p, 1, none⟩ = some (.int .i64 y)) ∧ OneCel b p x y w :=
  OneCel.cells ⟨h.2.1.trans (hb.mono h.2.1.size), h.2.2.below hb h.2.2.lt⟩

set_option maxHeartbeats 4000000 in
theorem cellsLaw_calls (HO : AnsCellOk) (HF : AnsCellOf) (HV : AnsValueIn) (HT : AnsTripleIn) (A : Option Addr) (l : List Int) (cap : Nat) (w : World) (hn : l.length ≤ maxLen) (hA : Ints w .u8 w.heap.size A l) (h8 : ∀ i, i < l.length → 0 ≤ l.getD i 0 ∧ l.getD i 0 ≤ 255) :
    Calls Try.prog 3 #[.slice A l.length cap] w fun e w' => e = .returned (.bool true) ∧ Below w.heap.size w w' := by
  by_cases hs : 4096 < l.length
  · go_enter Try.func3, Try.ntmps3
    go_wp2_with fail
    refine (big_yes A l.length cap w hs).mono ?_; rintro e w' ⟨rfl, rfl⟩
    go_wp2_with fail
    go_ret
    exact ⟨rfl, Below.refl _ _⟩
  · have hs' : l.length ≤ 4096 := by omega
    clear hs
    have HN := Lib.hid hn
    have HA := Lib.hid hA
    have H8 := Lib.hid h8
    clear hn hA h8
    go_enter Try.func3, Try.ntmps3
    go_wp2_with fail
    refine (big_no A l.length cap w hs').mono ?_; rintro e w' ⟨rfl, rfl⟩
    go_wp2_with fail
    refine (drawCellOf_calls A l cap w HN.out HA.out).mono ?_; rintro e w0 ⟨k, a, t, v, rfl, k0, a0, t0, v0, b0⟩
    have CF := Lib.hid (fun w => HF k a t v w k0 a0 t0 v0)
    have DF := Lib.hid (fun w => specCellOf_calls k a t v w)
    have B0 := Lib.hid b0
    clear b0 k0 a0 t0 v0
    generalize cellOf k a t v = c at CF DF
    obtain ⟨p, q⟩ := c
    simp only at CF DF
    go_wp2_with fail
    refine (CF.out _).mono ?_; rintro e w1 ⟨rfl, b1⟩
    have k1 := (Kept.of_below (B0.out.trans (b1.mono B0.out.size))).new 27 #[.int .i64 p, .int .i64 q]
    have K1 := Lib.hid k1
    have HA1 := Lib.hid ((HA.out.below k1.1 (Nat.le_refl _)).more k1.1.size)
    clear b1 k1
    go_wp2_with fail
    refine (drawValueIn_calls A l cap _ HN.out HA1.out).mono ?_; rintro e w2 ⟨k', a', t', v', rfl, k0, a0, t0, v0, b2⟩
    have CV := Lib.hid (fun w => HV k' a' t' v' w k0 a0 t0 v0)
    have DV := Lib.hid (fun w => specValueIn_calls k' a' t' v' w)
    have CO := Lib.hid (fun w => HO t' v' w t0 v0)
    have DO := Lib.hid (fun w => specCellOk_calls t' v' w)
    have k2 := (K1.out.below b2).new 27 #[.int .i64 t', .int .i64 v']
    have K2 := Lib.hid k2
    have HA2 := Lib.hid ((HA.out.below k2.1 (Nat.le_refl _)).more k2.1.size)
    clear b2 k2 k0 a0 t0 v0 HA1 K1
    generalize valueIn k' a' t' v' = d at CV DV
    generalize decide (isCell t' v') = f at CO DO
    go_wp2_with fail
    refine (drawTripleIn_calls A l cap _ HN.out HA2.out).mono ?_; rintro e w3 ⟨a2, t2, v2, rfl, a0, t0, v0, b3⟩
    have CT := Lib.hid (fun w => HT a2 t2 v2 w a0 t0 v0)
    have DT := Lib.hid (fun w => specTripleIn_calls a2 t2 v2 w)
    have k3 := ((K2.out.below b3).new 27 #[.int .i64 t2, .int .i64 v2]).drew
    have T3 := Lib.hid (show ThreeCel w w1.heap.size w2.heap.size w3.heap.size p q t' v' t2 v2 (w3.alloc (.cells #[.int .i64 t2, .int .i64 v2] 27)).drew from
      ⟨k3.1, k3.at_ (by simp), k3.at_ (by simp), k3.at_ (by simp)⟩)
    clear b3 k3 a0 t0 v0 HA2 K2
    generalize tripleIn a2 t2 v2 = z at CT DT
    obtain ⟨z0, z1, z2⟩ := z
    simp only at CT DT
    have g0 := celGuard
    have g1 := treGuard
    have e0 := fun w => ceqIn p q w
    have e1 := fun w => treqIn z0 z1 z2 w
    go_wp2_with fail
    go_region_held3 (fun w' => (w'.cell? ⟨w1.heap.size, 0, none⟩ = some (.int .i64 p) ∧ w'.cell? ⟨w1.heap.size, 1, none⟩ = some (.int .i64 q) ∧ w'.cell? ⟨w2.heap.size, 0, none⟩ = some (.int .i64 t') ∧ w'.cell? ⟨w2.heap.size, 1, none⟩ = some (.int .i64 v') ∧ w'.cell? ⟨w3.heap.size, 0, none⟩ = some (.int .i64 t2) ∧ w'.cell? ⟨w3.heap.size, 1, none⟩ = some (.int .i64 v2)) ∧ ThreeCel w w1.heap.size w2.heap.size w3.heap.size p q t' v' t2 v2 w')
      (first | exact ThreeCel.keep ‹Below _ _ _› ‹_› | exact ThreeCel.cells T3.out)
      (first
        | (go_at_call 13; refine (DF.out _).mono ?_; rintro e wx ⟨rfl, bx⟩)
        | (go_at_call 14; refine (CV.out _).mono ?_; rintro e wx ⟨rfl, bx⟩)
        | (go_at_call 15; refine (DV.out _).mono ?_; rintro e wx ⟨rfl, bx⟩)
        | (go_at_call 16; refine (CT.out _).mono ?_; rintro e wx ⟨rfl, bx⟩)
        | (go_at_call 17; refine (DT.out _).mono ?_; rintro e wx ⟨rfl, bx⟩)
        | (go_at_call 18; refine (CO.out _).mono ?_; rintro e wx ⟨rfl, bx⟩)
        | (go_at_call 19; refine (DO.out _).mono ?_; rintro e wx ⟨rfl, bx⟩))
    all_goals
      obtain ⟨-, TT⟩ := ‹_ ∧ ThreeCel _ _ _ _ _ _ _ _ _ _ _›
      have B3 := Lib.hid TT.1
      clear TT T3 CF DF CV DV CO DO CT DT B0 bx g0 e0 e1
      have s3 := B3.out.size
      go_wp2_with fail
      refine (roll_calls A l cap 7 _ HN.out ((HA.out.below B3.out (Nat.le_refl _)).more s3)).mono ?_; rintro e w4 ⟨rfl, b4, d4⟩
      have B4 := Lib.hid (B3.out.trans (b4.mono s3))
      have D4 := Lib.hid d4
      clear b4 d4 B3
      obtain ⟨g, hg⟩ : ∃ g, g = wx.heap.size := ⟨_, rfl⟩
      rw [← hg] at s3 D4 ⊢
      clear hg
      go_wp2_with fail
      refine (throw_calls g A l cap 1000 w4 HN.out D4.out H8.out (by omega)).mono ?_; rintro e w5 ⟨m, rfl, ⟨m0, m1⟩, g5, d5⟩
      have B5 := Lib.hid (bgb B4.out g5 B4.out.size s3)
      have D5 := Lib.hid d5
      clear g5 d5 D4 B4
      go_wp2_with fail
      refine (throw_calls g A l cap 24 w5 HN.out D5.out H8.out (by omega)).mono ?_; rintro e w6 ⟨x, rfl, ⟨x0, x1⟩, g6, d6⟩
      have B6 := Lib.hid (bgb B5.out g6 B5.out.size s3)
      have D6 := Lib.hid d6
      clear g6 d6 D5 B5
      go_wp2_with fail
      refine (throw_calls g A l cap 900 w6 HN.out D6.out H8.out (by omega)).mono ?_; rintro e w7 ⟨y, rfl, ⟨y0, y1⟩, g7, d7⟩
      have B7 := Lib.hid (bgb B6.out g7 B6.out.size s3)
      have D7 := Lib.hid d7
      clear g7 d7 D6 B6
      go_wp2_with fail
      refine (throw_calls g A l cap 10007 w7 HN.out D7.out H8.out (by omega)).mono ?_; rintro e w8 ⟨u, rfl, ⟨u0, u1⟩, g8, d8⟩
      have B8 := Lib.hid (bgb B7.out g8 B7.out.size s3)
      clear g8 d8 D7 B7
      have i0 : I64 (1 + m) := ⟨by omega, by omega⟩
      have i1 : I64 x := ⟨by omega, by omega⟩
      have i2 : I64 y := ⟨by omega, by omega⟩
      have i3 : I64 u := ⟨by omega, by omega⟩
      have hv : isVal u := ⟨by omega, by omega⟩
      have hk : isKey (1 + m) := ⟨by omega, by omega⟩
      have ha : isAt x := ⟨by omega, by omega⟩
      have ht : isTm y := ⟨by omega, by omega⟩
      have fh := hidden_nat (key := 1 + m) (at_ := x) (time := y) (v := u) (by omega) (by omega) (by omega) (by omega) hv
      have fl : hiddenOf (1 + m) x y u ≤ 10006 := (turnOf_bd _ _ _).2
      have fs := shown_hidden fh
      have C1 := Lib.hid (fun w => HF (1 + m) x y u w i0 i1 i2 i3)
      rw [cellOf_yes hk ⟨ha, ht, hv⟩] at C1
      simp only at C1
      have fv : isVal (hiddenOf (1 + m) x y u) := ⟨by omega, by omega⟩
      have i4 : I64 (hiddenOf (1 + m) x y u) := ⟨by omega, by omega⟩
      have C2 := Lib.hid (fun w => HO y (hiddenOf (1 + m) x y u) w i2 i4)
      rw [decide_eq_true (show isCell y (hiddenOf (1 + m) x y u) from ⟨ht, fv⟩)] at C2
      have C3 := Lib.hid (fun w => HV (1 + m) x y (hiddenOf (1 + m) x y u) w i0 i1 i2 i4)
      rw [valueIn_yes hk ha ⟨ht, fv⟩, fs] at C3
      have C4 := Lib.hid (fun w => HT x y (hiddenOf (1 + m) x y u) w i1 i2 i4)
      rw [tripleIn_yes ⟨ha, ht, fv⟩] at C4
      simp only at C4
      clear i0 i1 i2 i3 i4 hv hk ha ht fh fl fs fv
      generalize hiddenOf (1 + m) x y u = h at C1 C2 C3 C4
      go_wp2_with fail
      refine (C1.out _).mono ?_; rintro e w9 ⟨rfl, b9⟩
      have k9 := ((Kept.of_below (B8.out.trans (b9.mono B8.out.size))).new 27 #[.int .i64 y, .int .i64 h]).drew
      have T9 := Lib.hid (show OneCel w w9.heap.size y h (w9.alloc (.cells #[.int .i64 y, .int .i64 h] 27)).drew from ⟨k9.1, k9.at_ (by simp)⟩)
      clear b9 k9
      have e2 := fun w => treqIn x y h w
      go_wp2_with fail
      go_region_held3 (fun w' => (w'.cell? ⟨w9.heap.size, 0, none⟩ = some (.int .i64 y) ∧ w'.cell? ⟨w9.heap.size, 1, none⟩ = some (.int .i64 h)) ∧ OneCel w w9.heap.size y h w')
        (first | exact OneCel.keep ‹Below _ _ _› ‹_› | exact OneCel.cells T9.out)
        (first
          | (go_at_call 18; refine (C2.out _).mono ?_; rintro e wz ⟨rfl, bz⟩)
          | (go_at_call 14; refine (C3.out _).mono ?_; rintro e wz ⟨rfl, bz⟩)
          | (go_at_call 16; refine (C4.out _).mono ?_; rintro e wz ⟨rfl, bz⟩))
      all_goals
        obtain ⟨-, TZ⟩ := ‹_ ∧ OneCel _ _ _ _ _›
        have B9 := Lib.hid TZ.1
        clear TZ T9 C1 C2 C3 C4 e2 g1
        go_wp2_with fail
        go_ret
        exact ⟨by simp, B9.out⟩
end Go.Proofs.Ytcipjmenhoeekaa.Mx

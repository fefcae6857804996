/- THE WALK OF laws.FnStreams: it returns true at every code, and writes nothing that was there. -/
import Derived.Test.YtdikgpgghadalaaStreamC
import Derived.Test.YtdikgpgghadalaaDrawE
import Derived.Test.YtdikgpgghadalaaDice
import Derived.Test.YtdikgpgghadalaaMixedL
namespace Go.Proofs.Ytdikgpgghadalaa.Mx
open Go.ChangeShapes Go.WideShapes Go.ChangeAt Go.RowKit
set_option linter.unusedVariables false

set_option maxHeartbeats 2000000 in
theorem streamsLaw_calls (A : Option Addr) (l : List Int) (cap : Nat) (w : World) (hn : l.length ≤ maxLen) (hA : Ints w .u8 w.heap.size A l) (h8 : ∀ i, i < l.length → 0 ≤ l.getD i 0 ∧ l.getD i 0 ≤ 255) :
    Calls Try.prog 3 #[.slice A l.length cap] w fun e w' => e = .returned (.bool true) ∧ Below w.heap.size w w' := by
  by_cases hs : 4096 < l.length
  · go_enter Try.func3, Try.ntmps3
    go_wp2_with fail
    refine (big_yes A l.length cap w hs).mono ?_; rintro e w' ⟨rfl, rfl⟩
    go_wp2_with fail
    go_ret
    exact ⟨rfl, Below.refl _ _⟩
  · have hs' : l.length ≤ 4096 := by omega
    clear hs
    have HN := Lib.hid hn
    have HA := Lib.hid hA
    have H8 := Lib.hid h8
    clear hn hA h8
    go_enter Try.func3, Try.ntmps3
    go_wp2_with fail
    refine (big_no A l.length cap w hs').mono ?_; rintro e w' ⟨rfl, rfl⟩
    go_wp2_with fail
    refine (drawHidden_calls A l cap w HN.out HA.out).mono ?_; rintro e w1 ⟨k, a, t, v, rfl, k0, a0, t0, v0, b1⟩
    have B1 := Lib.hid b1
    have CH := Lib.hid (fun w => hidden_calls k a t v w a0 t0)
    have CS := Lib.hid (fun w => shown_calls k a t v w a0 t0)
    have DH := Lib.hid (fun w => specHidden_calls k a t v w a0 t0)
    have DS := Lib.hid (fun w => specShown_calls k a t v w a0 t0)
    have CT := Lib.hid (fun w => stream_calls k a t w a0 t0)
    have DT := Lib.hid (fun w => specStream_calls k a t w a0 t0)
    have CB := Lib.hid (fun w => shown_calls k a t (hiddenOf k a t v) w a0 t0)
    have F := Lib.hid (@shown_hidden k a t v)
    clear b1 k0 a0 t0 v0
    generalize hiddenOf k a t v = h at CH DH CB F
    generalize shownOf k a t v = x1 at CS DS
    generalize streamOf k a t = x2 at CT DT
    go_wp2_with fail
    refine (CH.out _).mono ?_; rintro e w2 ⟨rfl, b2⟩
    have B2 := Lib.hid (B1.out.trans (b2.mono B1.out.size))
    clear b2
    go_wp2_with fail
    refine (DH.out _).mono ?_; rintro e w3 ⟨rfl, b3⟩
    have B3 := Lib.hid (B2.out.trans (b3.mono B2.out.size))
    clear b3
    go_wp2_with fail
    refine (CS.out _).mono ?_; rintro e w4 ⟨rfl, b4⟩
    have B4 := Lib.hid (B3.out.trans (b4.mono B3.out.size))
    clear b4
    go_wp2_with fail
    refine (DS.out _).mono ?_; rintro e w5 ⟨rfl, b5⟩
    have B5 := Lib.hid (B4.out.trans (b5.mono B4.out.size))
    clear b5
    go_wp2_with fail
    refine (CT.out _).mono ?_; rintro e w6 ⟨rfl, b6⟩
    have B6 := Lib.hid (B5.out.trans (b6.mono B5.out.size))
    clear b6
    go_wp2_with fail
    refine (DT.out _).mono ?_; rintro e w7 ⟨rfl, b7⟩
    have B7 := Lib.hid (B6.out.trans (b7.mono B6.out.size))
    clear b7 B1 B2 B3 B4 B5 B6
    have s7 := B7.out.size
    go_wp2_with fail
    refine (roll_calls A l cap 3 w7 HN.out ((HA.out.below B7.out (Nat.le_refl _)).more s7)).mono ?_; rintro e w8 ⟨rfl, b8, d8⟩
    have B8 := Lib.hid (B7.out.trans (b8.mono s7))
    have D8 := Lib.hid d8
    clear b8 d8
    go_wp2_with fail
    refine (throw_calls w7.heap.size A l cap 1000 w8 HN.out D8.out H8.out (by omega)).mono ?_; rintro e w9 ⟨q, rfl, ⟨q0, q1⟩, g9, d9⟩
    have B9 := Lib.hid (bgb B8.out g9 B8.out.size s7)
    have D9 := Lib.hid d9
    clear g9 d9
    go_wp2_with fail
    refine (throw_calls w7.heap.size A l cap 24 w9 HN.out D9.out H8.out (by omega)).mono ?_; rintro e w10 ⟨a, rfl, ⟨a0, a1⟩, g10, d10⟩
    have B10 := Lib.hid (bgb B9.out g10 B9.out.size s7)
    have D10 := Lib.hid d10
    clear g10 d10
    go_wp2_with fail
    refine (throw_calls w7.heap.size A l cap 5000 w10 HN.out D10.out H8.out (by omega)).mono ?_; rintro e w11 ⟨t, rfl, ⟨t0, t1⟩, g11, d11⟩
    have B11 := Lib.hid (bgb B10.out g11 B10.out.size s7)
    have D11 := Lib.hid d11
    clear g11 d11
    go_wp2_with fail
    refine (throw_calls w7.heap.size A l cap 10007 w11 HN.out D11.out H8.out (by omega)).mono ?_; rintro e w12 ⟨v, rfl, ⟨v0, v1⟩, g12, d12⟩
    have B12 := Lib.hid (bgb B11.out g12 B11.out.size s7)
    clear g12 d12 D8 D9 D10 D11 B8 B9 B10 B11 B7
    have XH := Lib.hid (fun w => hidden_calls (1 + q) a t v w ⟨by omega, by omega⟩ ⟨by omega, by omega⟩)
    have XS := Lib.hid (fun w => shown_calls (1 + q) a t (hiddenOf (1 + q) a t v) w ⟨by omega, by omega⟩ ⟨by omega, by omega⟩)
    have fx := shown_hidden (hidden_nat (key := 1 + q) (at_ := a) (time := t) (v := v) (by omega) (by omega) (by omega) (by omega) ⟨by omega, by omega⟩)
    rw [fx] at XS
    clear fx
    generalize hiddenOf (1 + q) a t v = y at XH XS
    by_cases hh : h < 0
    · go_wp2_with fail
      refine (XH.out _).mono ?_; rintro e w13 ⟨rfl, b13⟩
      have B13 := Lib.hid (B12.out.trans (b13.mono B12.out.size))
      clear b13
      go_wp2_with fail
      refine (XS.out _).mono ?_; rintro e w14 ⟨rfl, b14⟩
      have B14 := Lib.hid (B13.out.trans (b14.mono B13.out.size))
      clear b14
      go_wp2_with fail
      go_ret
      exact ⟨by simp, B14.out⟩
    · have f := F.out (by omega)
      rw [f] at CB
      clear f
      go_wp2_with fail
      refine (CB.out _).mono ?_; rintro e wb ⟨rfl, bb⟩
      have BB := Lib.hid (B12.out.trans (bb.mono B12.out.size))
      clear bb
      go_wp2_with fail
      refine (XH.out _).mono ?_; rintro e w13 ⟨rfl, b13⟩
      have B13 := Lib.hid (BB.out.trans (b13.mono BB.out.size))
      clear b13
      go_wp2_with fail
      refine (XS.out _).mono ?_; rintro e w14 ⟨rfl, b14⟩
      have B14 := Lib.hid (B13.out.trans (b14.mono B13.out.size))
      clear b14
      go_wp2_with fail
      go_ret
      exact ⟨by simp, B14.out⟩
end Go.Proofs.Ytdikgpgghadalaa.Mx

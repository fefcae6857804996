/- CONTRACTS OF spec.l2DrawValue, DrawStreamOf, DrawHidden: each answers some numbers of type int64; nothing that was there is written. -/
import Derived.Test.YtcipjmenhoeekaaDrawD
import Derived.Test.YtcipjmenhoeekaaStreamA
import Derived.OwnWalk
namespace Go.Proofs.Ytcipjmenhoeekaa.Mx
open Go.ChangeShapes Go.WideShapes Go.ChangeAt Go.RowKit
set_option linter.unusedVariables false

theorem odd_st (v : World) (g : Nat) (A : Option Addr) (l : List Int) (cap : Nat) (w : World) (hn : l.length ≤ maxLen) (h : St v g A l cap w) :
    Calls Try.prog 58 #[.pointer (some ⟨g, 0, none⟩)] w (NumS (-9223372036854775808) 9223372036854775807 v w g A l cap) :=
  (odd_calls g A l cap w hn h.2).mono fun _ _ hx => NumS.of h hx
theorem drawKey_st (v : World) (g : Nat) (A : Option Addr) (l : List Int) (cap : Nat) (w : World) (hn : l.length ≤ maxLen) (h : St v g A l cap w) :
    Calls Try.prog 29 #[.pointer (some ⟨g, 0, none⟩)] w (NumS (-9223372036854775808) 9223372036854775807 v w g A l cap) :=
  (drawKey_calls g A l cap w hn h.2).mono fun _ _ hx => NumS.of h hx
/-- True or false is answered, and the state stands. -/
def BitS (v w : World) (g : Nat) (A : Option Addr) (l : List Int) (cap : Nat) (e : Ending) (w' : World) : Prop :=
  ∃ x : Bool, e = .returned (.bool x) ∧ St v g A l cap w' ∧ w.grownBy w' (some g)
theorem once_st (v : World) (g : Nat) (A : Option Addr) (l : List Int) (cap : Nat) (n : Int) (w : World) (hn : l.length ≤ maxLen) (h : St v g A l cap w) (h1 : 1 ≤ n) :
    Calls Try.prog 49 #[.pointer (some ⟨g, 0, none⟩), .int .i64 n] w (BitS v w g A l cap) :=
  (once_calls g A l cap n w hn h.2 h1).mono fun _ _ ⟨x, he, hg, hc⟩ => ⟨x, he, ⟨bgb h.1 hg (Nat.le_of_lt h.2.lt) (Nat.le_refl _), hc⟩, hg⟩
/-- A state that began at a new cursor. -/
theorem St.new {w w' : World} {A : Option Addr} {l : List Int} {cap : Nat} (hb : Below w.heap.size w w') (hc : Cur w' w.heap.size A l cap) : St w w.heap.size A l cap w' := ⟨hb, hc⟩

theorem drawValue_calls (v : World) (g : Nat) (A : Option Addr) (l : List Int) (cap : Nat) (w : World) (hn : l.length ≤ maxLen) (h : St v g A l cap w) :
    Calls Try.prog 44 #[.pointer (some ⟨g, 0, none⟩)] w (NumS (-9223372036854775808) 9223372036854775807 v w g A l cap) := by
  have HN := Lib.hid hn
  have HS := Lib.hid h
  clear hn h
  go_enter Try.func44, Try.ntmps44
  go_wp2_with fail
  refine (once_st v g A l cap 12 w HN.out HS.out (by omega)).mono ?_; rintro e w1 ⟨b1, rfl, s1, g1⟩
  have S1 := Lib.hid s1
  have G1 := Lib.hid g1
  clear s1 g1
  rcases b1 with _ | _
  · go_wp2_with fail
    refine (below_st v g A l cap 10007 w1 HN.out S1.out (by omega)).mono ?_; rintro e w2 ⟨x, rfl, ⟨x0, x1⟩, s2, g2⟩
    have S2 := Lib.hid s2
    have G2 := Lib.hid (gb_trans G1.out g2)
    clear s2 g2
    go_wp2_with fail
    go_ret
    exact ⟨_, rfl, ⟨by omega, by omega⟩, S2.out, G2.out⟩
  · go_wp2_with fail
    refine (num_st v g A l cap 10006 w1 HN.out S1.out (by omega) (by omega)).mono ?_; rintro e w2 ⟨x, rfl, ⟨x0, x1⟩, s2, g2⟩
    have S2 := Lib.hid s2
    have G2 := Lib.hid (gb_trans G1.out g2)
    clear s2 g2
    go_wp2_with fail
    go_ret
    exact ⟨_, rfl, ⟨by omega, by omega⟩, S2.out, G2.out⟩

/-- Three numbers are answered; nothing that was there is written. -/
def ThreeNums (w : World) (e : Ending) (w' : World) : Prop :=
  ∃ a b c : Int, e = .returned (.tuple #[.int .i64 a, .int .i64 b, .int .i64 c]) ∧ I64 a ∧ I64 b ∧ I64 c ∧ Below w.heap.size w w'
/-- Four numbers are answered; nothing that was there is written. -/
def FourNums (w : World) (e : Ending) (w' : World) : Prop :=
  ∃ a b c d : Int, e = .returned (.tuple #[.int .i64 a, .int .i64 b, .int .i64 c, .int .i64 d]) ∧ I64 a ∧ I64 b ∧ I64 c ∧ I64 d ∧ Below w.heap.size w w'

set_option maxHeartbeats 1000000 in
theorem drawStream_calls (A : Option Addr) (l : List Int) (cap : Nat) (w : World) (hn : l.length ≤ maxLen) (hA : Ints w .u8 w.heap.size A l) :
    Calls Try.prog 43 #[.slice A l.length cap] w (ThreeNums w) := by
  have HA := Lib.hid hA
  have HN := Lib.hid hn
  clear hA hn
  go_enter Try.func43, Try.ntmps43
  go_wp2_with fail
  refine (new_calls A l cap w HN.out HA.out).mono ?_; rintro e w1 ⟨rfl, b1, c1⟩
  have S1 := Lib.hid (St.new b1 c1)
  clear b1 c1
  obtain ⟨g, hg⟩ : ∃ g, g = w.heap.size := ⟨_, rfl⟩
  rw [← hg] at S1 ⊢
  have HG := Lib.hid hg
  clear hg
  go_wp2_with fail
  refine (drawKey_st w g A l cap w1 HN.out S1.out).mono ?_; rintro e w2 ⟨k, rfl, k0, s2, -⟩
  have S2 := Lib.hid s2
  clear s2
  go_wp2_with fail
  refine (once_st w g A l cap 10 w2 HN.out S2.out (by omega)).mono ?_; rintro e w3 ⟨b3, rfl, s3, -⟩
  have S3 := Lib.hid s3
  clear s3
  rcases b3 with _ | _
  · go_wp2_with fail
    refine (below_st w g A l cap 24 w3 HN.out S3.out (by omega)).mono ?_; rintro e w4 ⟨x, rfl, ⟨x0, x1⟩, s4, -⟩
    have S4 := Lib.hid s4
    clear s4
    go_wp2_with fail
    refine (below_st w g A l cap 200 w4 HN.out S4.out (by omega)).mono ?_; rintro e w5 ⟨y, rfl, ⟨y0, y1⟩, s5, -⟩
    have S5 := Lib.hid s5
    clear s5
    go_wp2_with fail
    go_ret3
    refine ⟨_, _, _, rfl, k0, ⟨by omega, by omega⟩, ⟨by omega, by omega⟩, ?_⟩
    rw [← HG.out]; exact S5.out.1
  · go_wp2_with fail
    refine (odd_st w g A l cap w3 HN.out S3.out).mono ?_; rintro e w4 ⟨x, rfl, x0, s4, -⟩
    have S4 := Lib.hid s4
    clear s4
    go_wp2_with fail
    refine (odd_st w g A l cap w4 HN.out S4.out).mono ?_; rintro e w5 ⟨y, rfl, y0, s5, -⟩
    have S5 := Lib.hid s5
    clear s5
    go_wp2_with fail
    go_ret3
    refine ⟨_, _, _, rfl, k0, x0, y0, ?_⟩
    rw [← HG.out]; exact S5.out.1

theorem results_tmp4 {fn : Func} {t u v x : Tmp} (h : fn.results = #[.tmp t, .tmp u, .tmp v, .tmp x]) (tmps : Array Value) (P : Program) (w : World) :
    (results fn tmps).run P w = .ok (.tuple #[tmps.getD t undef, tmps.getD u undef, tmps.getD v undef, tmps.getD x undef]) w := by
  simp [results, h]

theorem drawHidden_calls (A : Option Addr) (l : List Int) (cap : Nat) (w : World) (hn : l.length ≤ maxLen) (hA : Ints w .u8 w.heap.size A l) :
    Calls Try.prog 25 #[.slice A l.length cap] w (FourNums w) := by
  have HA := Lib.hid hA
  have HN := Lib.hid hn
  clear hA hn
  go_enter Try.func25, Try.ntmps25
  go_wp2_with fail
  refine (new_calls A l cap w HN.out HA.out).mono ?_; rintro e w1 ⟨rfl, b1, c1⟩
  have S1 := Lib.hid (St.new b1 c1)
  have A1 := Lib.hid ((HA.out.below b1 (Nat.le_refl _)).more b1.size)
  clear b1 c1
  obtain ⟨g, hg⟩ : ∃ g, g = w.heap.size := ⟨_, rfl⟩
  rw [← hg] at S1 ⊢
  have HG := Lib.hid hg
  clear hg
  go_wp2_with fail
  refine (drawStream_calls A l cap w1 HN.out A1.out).mono ?_; rintro e w2 ⟨a, b, c, rfl, a0, b0, c0, b2⟩
  have S2 := Lib.hid (show St w g A l cap w2 from ⟨S1.out.1.trans (b2.mono (Nat.le_of_lt S1.out.2.lt)), S1.out.2.below b2 S1.out.2.lt⟩)
  clear b2
  go_wp2_with fail
  refine (drawValue_calls w g A l cap w2 HN.out S2.out).mono ?_; rintro e w3 ⟨d, rfl, d0, s3, -⟩
  have S3 := Lib.hid s3
  clear s3
  go_wp2_with fail
  refine bodyPost_ret (results_tmp4 rfl _ _ _) rfl ?_
  refine ⟨_, _, _, _, rfl, a0, b0, c0, d0, ?_⟩
  rw [← HG.out]; exact S3.out.1
end Go.Proofs.Ytcipjmenhoeekaa.Mx

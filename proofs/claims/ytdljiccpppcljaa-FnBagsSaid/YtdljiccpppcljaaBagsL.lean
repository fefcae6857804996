/- THE WALKS OF laws.FnExactSumOf, FnExactSameBag, FnExactLatest: each returns true at every argument, and writes nothing that was there. -/
import Derived.Test.YtdljiccpppcljaaCopyT
import Derived.Test.YtdljiccpppcljaaSumB
import Derived.Test.YtdljiccpppcljaaSameS
import Derived.Test.YtdljiccpppcljaaLatest
namespace Go.Proofs.Ytdljiccpppcljaa.Mx
open Go.ChangeShapes Go.WideShapes Go.ChangeAt Go.RowKit Go.Maps
set_option linter.unusedVariables false

theorem Tris.grow {w w' : World} {A : Option Addr} {L : List Tri} (h : Tris w w.heap.size A L) (hb : Below w.heap.size w w') : Tris w' w'.heap.size A L := (h.below hb (Nat.le_refl _)).more hb.size

set_option maxHeartbeats 1000000 in
theorem sumLaw_calls (key : Int) (A : Option Addr) (L : List Tri) (cap : Nat) (w : World) (hL : L.length ≤ maxLen) (hA : Tris w w.heap.size A L) (hI : TriI L) :
    Calls Try.prog 4 #[.int .i64 key, .slice A L.length cap] w fun e w' => e = .returned (.bool true) ∧ Below w.heap.size w w' := by
  have SZ := Lib.hid (szTri_calls A L.length cap 1048576 w (by omega) (by omega) hL)
  by_cases hn : L.length ≤ 1048576
  · rw [if_pos (by omega)] at SZ
    have h0 : ¬ (1048576 - (L.length : Int) < 0) := by omega
    have HT := Lib.hid (fun w A cap (hA : Tris w w.heap.size A L) => toTris_calls A L cap w hn hA)
    have CS := Lib.hid (fun w A cap (hA : Tris w w.heap.size A L) => sum_calls key A L cap w (by unfold maxLen; omega) hA hI)
    have DS := Lib.hid (fun w A cap (hA : Tris w w.heap.size A L) => specSum_calls key A L cap w (by unfold maxLen; omega) hA)
    have EQ := Lib.hid (fun w A C cap cap' (hA : Tris w w.heap.size A L) (hC : Tris w w.heap.size C L) => eqTris_same A C L cap cap' w hL hA hC)
    have HA := Lib.hid hA
    clear hA hI hL
    generalize sumOf key L = s at CS DS
    go_enter Try.func4, Try.ntmps4
    go_wp2_with fail
    refine SZ.out.mono ?_; rintro e w' ⟨rfl, rfl⟩
    go_wp2_with fail
    refine (HT.out _ _ _ HA.out).mono ?_; rintro e w1 ⟨A1, rfl, b1, t1⟩
    have B1 := Lib.hid b1
    have T1 := Lib.hid t1
    clear b1 t1
    go_wp2_with fail
    refine (DS.out _ _ _ T1.out).mono ?_; rintro e w2 ⟨rfl, b2⟩
    have B2 := Lib.hid (B1.out.trans (b2.mono B1.out.size))
    clear b2 T1 B1
    go_wp2_with fail
    refine (HT.out _ _ _ (HA.out.grow B2.out)).mono ?_; rintro e w3 ⟨A3, rfl, b3, t3⟩
    have B3 := Lib.hid (B2.out.trans (b3.mono B2.out.size))
    have T3 := Lib.hid t3
    clear b3 t3 B2
    go_wp2_with fail
    refine (CS.out _ _ _ T3.out).mono ?_; rintro e w4 ⟨rfl, b4⟩
    have B4 := Lib.hid (B3.out.trans (b4.mono B3.out.size))
    have T4 := Lib.hid (T3.out.grow b4)
    clear b4 T3 B3
    have hs : (s != s) = false := by simp
    go_wp2_with fail
    refine (HT.out _ _ _ (HA.out.grow B4.out)).mono ?_; rintro e w5 ⟨A5, rfl, b5, t5⟩
    have B5 := Lib.hid (B4.out.trans (b5.mono B4.out.size))
    have T5 := Lib.hid t5
    have T6 := Lib.hid (T4.out.grow b5)
    clear b5 t5 B4 T4
    go_wp2_with fail
    refine (EQ.out _ _ _ _ _ T6.out T5.out).mono ?_; rintro e w6 ⟨rfl, b6⟩
    have B6 := Lib.hid (B5.out.trans (b6.mono B5.out.size))
    clear b6 B5
    go_wp2_with fail
    go_ret
    exact ⟨rfl, B6.out⟩
  · rw [if_neg (by omega)] at SZ
    clear hA hI hL
    go_enter Try.func4, Try.ntmps4
    go_wp2_with fail
    refine SZ.out.mono ?_; rintro e w' ⟨rfl, rfl⟩
    go_wp2_with fail
    go_ret
    exact ⟨rfl, Below.refl _ _⟩

set_option maxHeartbeats 2000000 in
theorem sameLaw_calls (A B : Option Addr) (a b : List Tri) (ca cb : Nat) (w : World) (hLa : a.length ≤ maxLen) (hLb : b.length ≤ maxLen) (hA : Tris w w.heap.size A a) (hB : Tris w w.heap.size B b) (iA : TriI a) (iB : TriI b) :
    Calls Try.prog 5 #[.slice A a.length ca, .slice B b.length cb] w fun e w' => e = .returned (.bool true) ∧ Below w.heap.size w w' := by
  have SZ := Lib.hid (szTri_calls A a.length ca 1048576 w (by omega) (by omega) hLa)
  by_cases hn : a.length ≤ 1048576
  · rw [if_pos (by omega)] at SZ
    have h0 : ¬ (1048576 - (a.length : Int) < 0) := by omega
    have SY := Lib.hid (szTri_calls B b.length cb (1048576 - (a.length : Int)) w (by omega) (by omega) hLb)
    by_cases hm : (b.length : Int) ≤ 1048576 - (a.length : Int)
    · rw [if_pos hm] at SY
      have h1 : ¬ (1048576 - (a.length : Int) - b.length < 0) := by omega
      have HT := Lib.hid (fun L (hl : L.length ≤ 1048576) w A cap (hA : Tris w w.heap.size A L) => toTris_calls A L cap w hl hA)
      have la : a.length ≤ 1048576 := hn
      have lb : b.length ≤ 1048576 := by omega
      have CS := Lib.hid (fun w A B ca cb (hA : Tris w w.heap.size A a) (hB : Tris w w.heap.size B b) => same_calls A B a b ca cb w hLa hLb hA hB iA iB)
      have DS := Lib.hid (fun w A B ca cb (hA : Tris w w.heap.size A a) (hB : Tris w w.heap.size B b) => specSame_calls A B a b ca cb w hLa hLb hA hB)
      have EQ := Lib.hid (fun L (hl : L.length ≤ maxLen) w A C cap cap' (hA : Tris w w.heap.size A L) (hC : Tris w w.heap.size C L) => eqTris_same A C L cap cap' w hl hA hC)
      have HA := Lib.hid hA
      have HB := Lib.hid hB
      have MA := Lib.hid hLa
      have MB := Lib.hid hLb
      clear hA hB iA iB hLa hLb
      generalize sameBag a b = s at CS DS
      go_enter Try.func5, Try.ntmps5
      go_wp2_with fail
      refine SZ.out.mono ?_; rintro e w' ⟨rfl, rfl⟩
      go_wp2_with fail
      refine SY.out.mono ?_; rintro e w' ⟨rfl, rfl⟩
      go_wp2_with fail
      refine (HT.out _ la _ _ _ HA.out).mono ?_; rintro e w1 ⟨A1, rfl, b1, t1⟩
      have B1 := Lib.hid b1
      have T1 := Lib.hid t1
      clear b1 t1
      go_wp2_with fail
      refine (HT.out _ lb _ _ _ (HB.out.grow B1.out)).mono ?_; rintro e w2 ⟨A2, rfl, b2, t2⟩
      have B2 := Lib.hid (B1.out.trans (b2.mono B1.out.size))
      have T2 := Lib.hid t2
      have T1' := Lib.hid (T1.out.grow b2)
      clear b2 t2 B1 T1
      go_wp2_with fail
      refine (DS.out _ _ _ _ _ T1'.out T2.out).mono ?_; rintro e w3 ⟨rfl, b3⟩
      have B3 := Lib.hid (B2.out.trans (b3.mono B2.out.size))
      clear b3 B2 T1' T2
      go_wp2_with fail
      refine (HT.out _ la _ _ _ (HA.out.grow B3.out)).mono ?_; rintro e w4 ⟨A4, rfl, b4, t4⟩
      have B4 := Lib.hid (B3.out.trans (b4.mono B3.out.size))
      have T4 := Lib.hid t4
      clear b4 t4 B3
      go_wp2_with fail
      refine (HT.out _ lb _ _ _ (HB.out.grow B4.out)).mono ?_; rintro e w5 ⟨A5, rfl, b5, t5⟩
      have B5 := Lib.hid (B4.out.trans (b5.mono B4.out.size))
      have T5 := Lib.hid t5
      have T4' := Lib.hid (T4.out.grow b5)
      clear b5 t5 B4 T4
      go_wp2_with fail
      refine (CS.out _ _ _ _ _ T4'.out T5.out).mono ?_; rintro e w6 ⟨rfl, b6⟩
      have B6 := Lib.hid (B5.out.trans (b6.mono B5.out.size))
      have T6 := Lib.hid (T4'.out.grow b6)
      have T6' := Lib.hid (T5.out.grow b6)
      clear b6 B5 T4' T5
      have hs : (s != s) = false := by simp
      go_wp2_with fail
      refine (HT.out _ la _ _ _ (HA.out.grow B6.out)).mono ?_; rintro e w7 ⟨A7, rfl, b7, t7⟩
      have B7 := Lib.hid (B6.out.trans (b7.mono B6.out.size))
      have T7 := Lib.hid t7
      have T7' := Lib.hid (T6.out.grow b7)
      have T7b := Lib.hid (T6'.out.grow b7)
      clear b7 t7 B6 T6 T6'
      go_wp2_with fail
      refine (EQ.out _ MA.out _ _ _ _ _ T7'.out T7.out).mono ?_; rintro e w8 ⟨rfl, b8⟩
      have B8 := Lib.hid (B7.out.trans (b8.mono B7.out.size))
      have T8 := Lib.hid (T7b.out.grow b8)
      clear b8 B7 T7 T7' T7b
      go_wp2_with fail
      refine (HT.out _ lb _ _ _ (HB.out.grow B8.out)).mono ?_; rintro e w9 ⟨A9, rfl, b9, t9⟩
      have B9 := Lib.hid (B8.out.trans (b9.mono B8.out.size))
      have T9 := Lib.hid t9
      have T9' := Lib.hid (T8.out.grow b9)
      clear b9 t9 B8 T8
      go_wp2_with fail
      refine (EQ.out _ MB.out _ _ _ _ _ T9'.out T9.out).mono ?_; rintro e wa ⟨rfl, ba⟩
      have BA := Lib.hid (B9.out.trans (ba.mono B9.out.size))
      clear ba B9 T9 T9'
      go_wp2_with fail
      go_ret
      exact ⟨rfl, BA.out⟩
    · rw [if_neg hm] at SY
      clear hA hB iA iB hLa hLb
      go_enter Try.func5, Try.ntmps5
      go_wp2_with fail
      refine SZ.out.mono ?_; rintro e w' ⟨rfl, rfl⟩
      go_wp2_with fail
      refine SY.out.mono ?_; rintro e w' ⟨rfl, rfl⟩
      go_wp2_with fail
      go_ret
      exact ⟨rfl, Below.refl _ _⟩
  · rw [if_neg (by omega)] at SZ
    clear hA hB iA iB hLa hLb
    go_enter Try.func5, Try.ntmps5
    go_wp2_with fail
    refine SZ.out.mono ?_; rintro e w' ⟨rfl, rfl⟩
    go_wp2_with fail
    go_ret
    exact ⟨rfl, Below.refl _ _⟩

set_option maxHeartbeats 2000000 in
theorem latestLaw_calls (A : Option Addr) (L : List Tri) (cap : Nat) (at_ : Int) (w : World) (hL : L.length ≤ maxLen) (hA : Tris w w.heap.size A L) :
    Calls Try.prog 6 #[.slice A L.length cap, .int .i64 at_] w fun e w' => e = .returned (.bool true) ∧ Below w.heap.size w w' := by
  have SZ := Lib.hid (szTri_calls A L.length cap 1048576 w (by omega) (by omega) hL)
  by_cases hn : L.length ≤ 1048576
  · rw [if_pos (by omega)] at SZ
    have h0 : ¬ (1048576 - (L.length : Int) < 0) := by omega
    have HT := Lib.hid (fun w A cap (hA : Tris w w.heap.size A L) => toTris_calls A L cap w hn hA)
    have CS := Lib.hid (fun w A cap (hA : Tris w w.heap.size A L) => latest_calls A L cap at_ w hL hA)
    have DS := Lib.hid (fun w A cap (hA : Tris w w.heap.size A L) => specLatest_calls A L cap at_ w hL hA)
    have EQ := Lib.hid (fun w A C cap cap' (hA : Tris w w.heap.size A L) (hC : Tris w w.heap.size C L) => eqTris_same A C L cap cap' w hL hA hC)
    have HA := Lib.hid hA
    clear hA hL
    unfold LatestS at CS DS
    generalize latest at_ L = s at CS DS
    obtain ⟨⟨x, y, z⟩, f⟩ := s
    go_enter Try.func6, Try.ntmps6
    go_wp2_with fail
    refine SZ.out.mono ?_; rintro e w' ⟨rfl, rfl⟩
    go_wp2_with fail
    refine (HT.out _ _ _ HA.out).mono ?_; rintro e w1 ⟨A1, rfl, b1, t1⟩
    have B1 := Lib.hid b1
    have T1 := Lib.hid t1
    clear b1 t1
    go_wp2_with fail
    refine (DS.out _ _ _ T1.out).mono ?_; rintro e w2 ⟨rfl, b2⟩
    have K2 := Lib.hid ((Kept.of_below (B1.out.trans (b2.mono B1.out.size))).new 32 (triBox (x, y, z)))
    clear b2 T1 B1
    go_wp2_with fail
    refine (HT.out _ _ _ (HA.out.grow K2.out.1)).mono ?_; rintro e w3 ⟨A3, rfl, b3, t3⟩
    have K3 := Lib.hid (K2.out.below b3)
    have T3 := Lib.hid t3
    clear b3 t3 K2
    go_wp2_with fail
    refine (CS.out _ _ _ T3.out).mono ?_; rintro e w4 ⟨rfl, b4⟩
    have K4 := Lib.hid ((K3.out.below b4).new 32 (triBox (x, y, z)))
    have T4 := Lib.hid ((T3.out.grow b4).grow ((Below.refl w4.heap.size w4).alloc (Nat.le_refl _) (.cells (triBox (x, y, z)) 32)))
    clear b4 T3 K3
    have e0 := K4.out.cell (p := w2.heap.size) (t := 32) (cs := triBox (x, y, z)) (by simp) 0
    have e1 := K4.out.cell (p := w2.heap.size) (t := 32) (cs := triBox (x, y, z)) (by simp) 1
    have e2 := K4.out.cell (p := w2.heap.size) (t := 32) (cs := triBox (x, y, z)) (by simp) 2
    simp only [triBox, List.getElem?_toArray, List.getElem?_cons_zero, List.getElem?_cons_succ] at e0 e1 e2
    go_wp2_with fail
    refine (eqTri_same _ _ _ _).mono ?_; rintro e w5 ⟨rfl, b5⟩
    have K5 := Lib.hid (K4.out.below b5)
    have T5 := Lib.hid (T4.out.grow b5)
    clear b5 T4 K4 e0 e1 e2
    have hs : (f != f) = false := by cases f <;> rfl
    go_wp2_with fail
    refine (HT.out _ _ _ (HA.out.grow K5.out.1)).mono ?_; rintro e w6 ⟨A6, rfl, b6, t6⟩
    have B6 := Lib.hid (K5.out.below b6).1
    have T6 := Lib.hid t6
    have T7 := Lib.hid (T5.out.grow b6)
    clear b6 t6 K5 T5
    go_wp2_with fail
    refine (EQ.out _ _ _ _ _ T7.out T6.out).mono ?_; rintro e w7 ⟨rfl, b7⟩
    have B7 := Lib.hid (B6.out.trans (b7.mono B6.out.size))
    clear b7 B6
    go_wp2_with fail
    go_ret
    exact ⟨rfl, B7.out⟩
  · rw [if_neg (by omega)] at SZ
    clear hA hL
    go_enter Try.func6, Try.ntmps6
    go_wp2_with fail
    refine SZ.out.mono ?_; rintro e w' ⟨rfl, rfl⟩
    go_wp2_with fail
    go_ret
    exact ⟨rfl, Below.refl _ _⟩
end Go.Proofs.Ytdljiccpppcljaa.Mx

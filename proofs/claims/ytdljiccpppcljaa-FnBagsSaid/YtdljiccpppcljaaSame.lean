/- CONTRACTS OF impl.SameBag, spec.l4Count, SameBag. -/
import Derived.Test.YtdljiccpppcljaaBagB
import Derived.Deep.RegionHeld3
namespace Go.Proofs.Ytdljiccpppcljaa.Mx
open Go.ChangeShapes Go.WideShapes Go.ChangeAt Go.RowKit Go.Maps Go.ChangeMaps
set_option linter.unusedVariables false

open Classical in
/-- What chapter 4 asks of SameBag. -/
noncomputable def sameBag (a b : List Tri) : Bool := decide (a.length ≤ 300 ∧ b.length ≤ 300 ∧ a.Perm b)
theorem sameBag_yes {a b : List Tri} (h0 : a.length ≤ 300) (h1 : b.length ≤ 300) (h : a.Perm b) : sameBag a b = true := by unfold sameBag; exact decide_eq_true ⟨h0, h1, h⟩
theorem sameBag_no {a b : List Tri} (h : ¬ a.Perm b) : sameBag a b = false := by unfold sameBag; exact decide_eq_false fun h' => h h'.2.2
theorem sameBag_long {a b : List Tri} (h : 300 < a.length ∨ 300 < b.length) : sameBag a b = false := by unfold sameBag; exact decide_eq_false fun h' => by omega

theorem perm_left {a l r : List Tri} {x : Tri} (h : a.Perm (l ++ r)) (hx : x ∈ r) : a.Perm ((l ++ [x]) ++ r.erase x) := by
  refine h.trans ?_
  rw [List.append_assoc]
  exact List.Perm.append_left l (List.perm_cons_erase hx)
theorem not_perm_short {a l r b : List Tri} {x : Tri} (h : a.Perm (l ++ r)) (hx : x ∉ r) (hb : ∃ m, b = (l ++ [x]) ++ m) : ¬ a.Perm b := by
  rintro hp
  obtain ⟨m, rfl⟩ := hb
  have h1 := (h.symm.trans hp).count_eq x
  rw [List.count_append, List.count_append, List.count_append, List.count_eq_zero.2 hx] at h1
  simp at h1
  omega

theorem perm_of_counts {a b : List Tri} (h : ∀ x, x ∈ a → a.count x = b.count x) (hl : a.length = b.length) : a.Perm b := by
  have hf : a.Perm (b.filter (fun x => decide (x ∈ a))) := by
    rw [List.perm_iff_count]
    intro x
    by_cases hx : x ∈ a
    · rw [List.count_filter (by simpa using hx), h x hx]
    · rw [List.count_eq_zero.2 hx, List.count_eq_zero.2 (by simp [hx])]
  have hle := hf.length_eq
  have he : b.filter (fun x => decide (x ∈ a)) = b := List.filter_eq_self.2 (List.length_filter_eq_length_iff.1 (hle.symm.trans hl))
  rw [he] at hf
  exact hf

theorem same_long (A B : Option Addr) (a b : List Tri) (ca cb : Nat) (w : World) (ha : a.length ≤ maxLen) (hb : b.length ≤ maxLen) (h : 300 < a.length ∨ 300 < b.length) :
    Calls Try.prog 13 #[.slice A a.length ca, .slice B b.length cb] w fun e w' => e = .returned (.bool false) ∧ w = w' := by
  unfold maxLen at ha hb
  by_cases h0 : 300 < a.length
  · have h1 : 300 < (a.length : Int) := by omega
    clear h
    go_enter Try.func13, Try.ntmps13
    go_wp2_with fail
    go_ret
    exact ⟨rfl, rfl⟩
  · have h1 : ¬ 300 < (a.length : Int) := by omega
    have h2 : 300 < (b.length : Int) := by omega
    clear h
    go_enter Try.func13, Try.ntmps13
    go_wp2_with fail
    go_ret
    exact ⟨rfl, rfl⟩

set_option maxHeartbeats 1000000 in
theorem same_short (A B : Option Addr) (a b : List Tri) (ca cb : Nat) (w : World) (hA : Tris w w.heap.size A a) (hB : Tris w w.heap.size B b) (iA : TriI a) (iB : TriI b) (h0 : a.length ≤ 300) (h1 : b.length ≤ 300) :
    Calls Try.prog 13 #[.slice A a.length ca, .slice B b.length cb] w fun e w' => e = .returned (.bool (sameBag a b)) ∧ Below w.heap.size w w' := by
  have HA := Lib.hid (bagOf_calls A a ca w (by unfold maxLen; omega) hA iA)
  have HB := Lib.hid hB
  have IB := Lib.hid iB
  have l0 : ¬ 300 < (a.length : Int) := by omega
  have l1 : ¬ 300 < (b.length : Int) := by omega
  clear hA hB iA iB
  go_enter Try.func13, Try.ntmps13
  go_wp2_with fail
  refine HA.out.mono ?_; rintro e w1 ⟨rfl, m1, b1⟩
  have M1 := Lib.hid m1
  have B1 := Lib.hid b1
  clear m1 b1 HA
  go_wp2_with fail
  go_loopw [20] (fun i wr => ∃ (k : Nat) (r : List Tri), k ≤ b.length ∧ i = .int .i64 k ∧ Below w.heap.size w wr ∧ Bag wr w.heap.size (a.length + k) r ∧ r.length ≤ a.length ∧ a.Perm (b.take k ++ r)) (fun i _ => b.length - (intOf i).toNat)
  case atStart => exact ⟨0, a, Nat.zero_le _, rfl, B1.out, M1.out, Nat.le_refl _, List.Perm.refl _⟩
  case round =>
    obtain ⟨k, r, hk, rfl, hbel, hbag, hr, hp⟩ := hrel
    have BL := Lib.hid hbel
    have BG := Lib.hid hbag
    have HP := Lib.hid hp
    have hAr := HB.out.below hbel (Nat.le_refl _)
    clear hbel hbag hp
    by_cases hlt : k < b.length
    · obtain ⟨g, off, rfl, hg, c0, c1, c2⟩ := hAr k hlt
      have hlt' : (k : Int) < b.length := by omega
      have hk0 : (0 : Int) ≤ k := by omega
      have HS := Lib.hid (take_snoc hlt)
      have HT := Lib.hid (IB.out k hlt)
      have HD := Lib.hid (show b = b.take (k + 1) ++ b.drop (k + 1) from (List.take_append_drop _ _).symm)
      clear hAr
      generalize b.getD k (0, 0, 0) = T at c0 c1 c2 HS HT
      obtain ⟨x, t, v⟩ := T
      simp only at c0 c1 c2
      have J1 := Lib.hid HT.out.1
      have J2 := Lib.hid HT.out.2.1
      have J3 := Lib.hid HT.out.2.2
      clear HT
      by_cases hin : (x, t, v) ∈ r
      · have HN := Lib.hid (List.length_erase_of_mem hin)
        have HP2 := Lib.hid (perm_left HP.out hin)
        rw [← HS.out] at HP2
        have HI := Lib.hid hin
        clear hin
        go_wp2_with fail
        refine (taken_yes w.heap.size (a.length + k) r x t v _ (BG.out.alloc _) (by unfold maxLen; omega) (by unfold maxLen; omega) J1.out J2.out J3.out HI.out).mono ?_; rintro e w2 ⟨rfl, g2, bg2⟩
        have B2 := Lib.hid (bgb (BL.out.alloc BL.out.size _) g2 (Nat.le_trans BL.out.size (by simp)) (Nat.le_refl _))
        have G2 := Lib.hid bg2
        clear g2 bg2 c0 c1 c2
        go_wp2_with fail
        go_roundw
        case rel => exact ⟨k + 1, r.erase (x, t, v), by omega, by go_num, B2.out, G2.out, by have := HN.out; omega, HP2.out⟩
        case measure => simp [intOf]; omega
      · have HX := Lib.hid (sameBag_no (b := b) (not_perm_short HP.out hin ⟨b.drop (k + 1), by rw [← HS.out]; exact HD.out⟩))
        have HI := Lib.hid hin
        clear hin
        go_wp2_with fail
        refine (taken_no w.heap.size (a.length + k) r x t v _ (BG.out.alloc _) J1.out J2.out J3.out HI.out).mono ?_; rintro e w2 ⟨rfl, b2⟩
        have B2 := Lib.hid ((BL.out.alloc BL.out.size (.cells #[.int .i64 x, .int .i64 t, .int .i64 v] 32)).trans (b2.mono (Nat.le_trans BL.out.size (by simp))))
        clear b2 c0 c1 c2
        go_wp2_with fail
        go_ret
        exact ⟨by rw [HX.out]; rfl, B2.out⟩
    · have hk' : k = b.length := by omega
      clear hAr
      have hq := HP.out
      rw [show b.take k = b by rw [hk', List.take_length]] at hq
      obtain ⟨D, ho, hD⟩ := BG.out
      have HO := Lib.hid ho
      have he := hD.empty
      generalize hz : Maps.size D = z at he
      have HZ := Lib.hid hz
      have hres : sameBag a b = decide ((z : Int) = 0) := by
        by_cases hzz : z = 0
        · have hr0 := he.1 hzz
          subst hr0
          rw [List.append_nil] at hq
          rw [sameBag_yes h0 h1 hq]; simp [hzz]
        · rw [decide_eq_false (by omega)]
          refine sameBag_no fun hp => hzz (he.2 ?_)
          have := (hp.symm.trans hq).length_eq
          rw [List.length_append] at this
          exact List.length_eq_zero_iff.1 (by omega)
      have HR := Lib.hid hres
      clear hres he hq hD ho hz hk'
      go_wp2_with (at_len; refine wpList_len_own _ rfl _ 55 rfl 32 3 Try.underlying55 _ w.heap.size _ D rfl HO.out ?_; rw [HZ.out])
      go_ret
      exact ⟨by rw [HR.out]; rfl, BL.out⟩

/-- impl.SameBag. -/
theorem same_calls (A B : Option Addr) (a b : List Tri) (ca cb : Nat) (w : World) (ha : a.length ≤ maxLen) (hb : b.length ≤ maxLen) (hA : Tris w w.heap.size A a) (hB : Tris w w.heap.size B b) (iA : TriI a) (iB : TriI b) :
    Calls Try.prog 13 #[.slice A a.length ca, .slice B b.length cb] w fun e w' => e = .returned (.bool (sameBag a b)) ∧ Below w.heap.size w w' := by
  by_cases h : 300 < a.length ∨ 300 < b.length
  · rw [sameBag_long h]
    refine (same_long A B a b ca cb w ha hb h).mono ?_
    rintro e w' ⟨rfl, rfl⟩
    exact ⟨rfl, Below.refl _ _⟩
  · exact same_short A B a b ca cb w hA hB iA iB (by omega) (by omega)
end Go.Proofs.Ytdljiccpppcljaa.Mx

/- CONTRACTS OF spec.l4Count, SameBag. -/
import Derived.Test.YtdljiccpppcljaaSame
import Derived.Deep.QuietTactic
import Derived.BigQuiet
namespace Go.Proofs.Ytdljiccpppcljaa.Mx
open Go.ChangeShapes Go.WideShapes Go.ChangeAt Go.RowKit Go.Maps Go.ChangeMaps
set_option linter.unusedVariables false

theorem count_take_self {L : List Tri} {k : Nat} {x : Tri} (h : L.take (k + 1) = L.take k ++ [x]) : (L.take (k + 1)).count x = (L.take k).count x + 1 := by rw [h, count_snoc_self]
theorem count_take_other {L : List Tri} {k : Nat} {x y : Tri} (h : L.take (k + 1) = L.take k ++ [x]) (hne : y ≠ x) : (L.take (k + 1)).count y = (L.take k).count y := by rw [h, count_snoc_other _ hne]

theorem triGuard : Try.prog.eqGuardType Try.prog.depth 32 = false := by kernel_rfl
theorem triStood : Try.prog.stoodInHeld 32 = false := by kernel_rfl
theorem tri_eqIn (a t v x y z : Int) (w : World) : (Op.equalIn 10000 32 (.agg #[.int .i64 a, .int .i64 t, .int .i64 v]) (.agg #[.int .i64 x, .int .i64 y, .int .i64 z])).run Try.prog w = .ok (decide ((x, y, z) = (a, t, v))) w := by
  rw [run_equalIn_agg w 9999 32 _ _ (by kernel_rfl) triStood]
  simp [Program.fieldsOf, Try.underlying32, Try.underlying2, Op.eqFields, go_sem]
  by_cases h0 : a = x <;> by_cases h1 : t = y <;> by_cases h2 : v = z <;> simp [h0, h1, h2, eq_comm]

set_option maxHeartbeats 1000000 in
theorem count_calls (A : Option Addr) (L : List Tri) (cap : Nat) (x : Tri) (w : World) (hn : L.length ≤ maxLen) (hA : Tris w w.heap.size A L) :
    Calls Try.prog 38 #[.slice A L.length cap, .agg #[.int .i64 x.1, .int .i64 x.2.1, .int .i64 x.2.2]] w fun e w' => e = .returned (.int .i64 (L.count x : Nat)) ∧ Below w.heap.size w w' := by
  obtain ⟨xa, xt, xv⟩ := x
  have hm := hn
  unfold maxLen at hm
  have HA := Lib.hid hA
  clear hA hn
  go_enter Try.func38, Try.ntmps38
  go_wp2_with fail
  have C0 := Lib.hid (CellsAt.new w 32 #[.int .i64 xa, .int .i64 xt, .int .i64 xv])
  have B0 := Lib.hid ((Below.refl w.heap.size w).alloc (Nat.le_refl _) (.cells #[.int .i64 xa, .int .i64 xt, .int .i64 xv] 32))
  go_loopw [5, 6] (fun n i wr => ∃ k : Nat, k ≤ L.length ∧ i = .int .i64 k ∧ n = .int .i64 ((L.take k).count (xa, xt, xv) : Nat) ∧ Below w.heap.size w wr ∧ CellsAt wr w.heap.size 32 #[.int .i64 xa, .int .i64 xt, .int .i64 xv]) (fun _ i _ => L.length - (intOf i).toNat)
  case atStart => exact ⟨0, Nat.zero_le _, rfl, rfl, B0.out, C0.out⟩
  case round =>
    obtain ⟨k, hk, rfl, rfl, hbel, hcx⟩ := hrel
    have HB := Lib.hid hbel
    have HC := Lib.hid hcx
    have hAr := HA.out.below hbel (Nat.le_refl _)
    have d0 : wr.cell? ⟨w.heap.size, 0, none⟩ = some (.int .i64 xa) := hcx.cell 0
    have d1 : wr.cell? ⟨w.heap.size, 1, none⟩ = some (.int .i64 xt) := hcx.cell 1
    have d2 : wr.cell? ⟨w.heap.size, 2, none⟩ = some (.int .i64 xv) := hcx.cell 2
    clear hbel hcx
    by_cases hlt : k < L.length
    · obtain ⟨b, off, rfl, hb, c0, c1, c2⟩ := hAr k hlt
      have hlt' : (k : Int) < L.length := by omega
      have hk0 : (0 : Int) ≤ k := by omega
      have hs := take_snoc hlt
      have hle : (L.take k).count (xa, xt, xv) ≤ k := Nat.le_trans List.count_le_length (by rw [List.length_take]; omega)
      clear hAr
      generalize L.getD k (0, 0, 0) = T at c0 c1 c2 hs
      obtain ⟨a, t, v⟩ := T
      simp only at c0 c1 c2
      have hm := triGuard
      by_cases heq : (xa, xt, xv) = (a, t, v)
      · have hq := fun w => tri_eqIn a t v xa xt xv w
        rw [decide_eq_true heq] at hq
        have HX := Lib.hid (count_take_self (x := (xa, xt, xv)) (heq ▸ hs))
        clear heq hs
        generalize (L.take k).count (xa, xt, xv) = c at hle HX
        go_wp2_with fail
        go_quiet (fail)
        go_wp2_with fail
        go_roundw
        case rel => exact ⟨k + 1, by omega, by go_num, by rw [HX.out]; go_num, ⟨HB.out.os, HB.out.tape, HB.out.output, HB.out.size, HB.out.block⟩, HC.out⟩
        case measure => simp [intOf]; omega
      · have hq := fun w => tri_eqIn a t v xa xt xv w
        rw [decide_eq_false heq] at hq
        have HX := Lib.hid (count_take_other (y := (xa, xt, xv)) hs heq)
        clear heq hs
        generalize (L.take k).count (xa, xt, xv) = c at hle HX
        go_wp2_with fail
        go_quiet (fail)
        go_wp2_with fail
        go_roundw
        case rel => exact ⟨k + 1, by omega, by go_num, by rw [HX.out], ⟨HB.out.os, HB.out.tape, HB.out.output, HB.out.size, HB.out.block⟩, HC.out⟩
        case measure => simp [intOf]; omega
    · have hk' : k = L.length := by omega
      clear hAr d0 d1 d2
      have HQ := Lib.hid (show L.take k = L by rw [hk', List.take_length])
      clear hk'
      go_wp2_with fail
      go_ret
      exact ⟨by rw [HQ.out]; rfl, HB.out⟩

theorem specSame_long (A B : Option Addr) (a b : List Tri) (ca cb : Nat) (w : World) (ha : a.length ≤ maxLen) (hb : b.length ≤ maxLen) (h : 300 < a.length ∨ 300 < b.length) :
    Calls Try.prog 16 #[.slice A a.length ca, .slice B b.length cb] w fun e w' => e = .returned (.bool false) ∧ w = w' := by
  unfold maxLen at ha hb
  by_cases h0 : 300 < a.length
  · have h1 : 300 < (a.length : Int) := by omega
    clear h
    go_enter Try.func16, Try.ntmps16
    go_wp2_with fail
    go_ret
    exact ⟨rfl, rfl⟩
  · have h1 : ¬ 300 < (a.length : Int) := by omega
    have h2 : 300 < (b.length : Int) := by omega
    clear h
    go_enter Try.func16, Try.ntmps16
    go_wp2_with fail
    go_ret
    exact ⟨rfl, rfl⟩

theorem counts_snoc {a b : List Tri} {k : Nat} {x : Tri} (hs : a.take (k + 1) = a.take k ++ [x]) (h : ∀ y, y ∈ a.take k → a.count y = b.count y) (hx : a.count x = b.count x) : ∀ y, y ∈ a.take (k + 1) → a.count y = b.count y := by
  intro y hy
  rw [hs, List.mem_append, List.mem_singleton] at hy
  rcases hy with hy | rfl
  · exact h y hy
  · exact hx
theorem sameBag_count {a b : List Tri} {x : Tri} (h : ¬ a.count x = b.count x) : sameBag a b = false := sameBag_no fun hp => h (hp.count_eq x)
theorem sameBag_all {a b : List Tri} (h0 : a.length ≤ 300) (h1 : b.length ≤ 300) (h : ∀ y, y ∈ a → a.count y = b.count y) : sameBag a b = decide ((a.length : Int) = b.length) := by
  by_cases hl : a.length = b.length
  · rw [sameBag_yes h0 h1 (perm_of_counts h hl)]; simp [hl]
  · rw [sameBag_no fun hp => hl hp.length_eq, decide_eq_false (by omega)]
/-- The state inside: nothing that was there has turned. -/
def Stood (w w' : World) : Prop := Below w.heap.size w w'
theorem Stood.refl (w : World) : Stood w w := Below.refl _ _
theorem Stood.step {w w1 w2 : World} (h : Stood w w1) (b : Below w1.heap.size w1 w2) : Stood w w2 := Below.trans h (b.mono h.size)
theorem Stood.drew {w w1 : World} (h : Stood w w1) : Stood w w1.drew := Below.drew h
theorem Stood.tri {w w1 : World} {a t v : Int} {b o : Nat} (h : Stood w w1) (hb : b < w.heap.size) (c0 : w.cell? ⟨b, o, none⟩ = some (.int .i64 a)) (c1 : w.cell? ⟨b, o + 1, none⟩ = some (.int .i64 t)) (c2 : w.cell? ⟨b, o + 2, none⟩ = some (.int .i64 v)) :
    (w1.cell? ⟨b, o, none⟩ = some (.int .i64 a) ∧ w1.cell? ⟨b, o + 1, none⟩ = some (.int .i64 t) ∧ w1.cell? ⟨b, o + 2, none⟩ = some (.int .i64 v)) ∧ Stood w w1 :=
  ⟨⟨(Below.cell h (p := ⟨b, o, none⟩) hb).trans c0, (Below.cell h (p := ⟨b, o + 1, none⟩) hb).trans c1, (Below.cell h (p := ⟨b, o + 2, none⟩) hb).trans c2⟩, h⟩

set_option maxHeartbeats 400000 in
theorem specSame_short (A B : Option Addr) (a b : List Tri) (ca cb : Nat) (w : World) (hA : Tris w w.heap.size A a) (hB : Tris w w.heap.size B b) (h0 : a.length ≤ 300) (h1 : b.length ≤ 300) :
    Calls Try.prog 16 #[.slice A a.length ca, .slice B b.length cb] w fun e w' => e = .returned (.bool (sameBag a b)) ∧ Below w.heap.size w w' := by
  have HA := Lib.hid hA
  have HB := Lib.hid hB
  have l0 : ¬ 300 < (a.length : Int) := by omega
  have l1 : ¬ 300 < (b.length : Int) := by omega
  clear hA hB
  go_enter Try.func16, Try.ntmps16
  go_wp2_with fail
  go_loopw [5] (fun i wr => ∃ k : Nat, k ≤ a.length ∧ i = .int .i64 k ∧ Stood w wr ∧ ∀ x, x ∈ a.take k → a.count x = b.count x) (fun i _ => a.length - (intOf i).toNat)
  case atStart => exact ⟨0, Nat.zero_le _, rfl, Stood.refl _, by simp⟩
  case round =>
    obtain ⟨k, hk, rfl, hst, hcs⟩ := hrel
    have ST := Lib.hid hst
    have CS := Lib.hid hcs
    clear hst hcs
    by_cases hlt : k < a.length
    · obtain ⟨g, off, rfl, hg, c0', c1', c2'⟩ := HA.out k hlt
      have hlt' : (k : Int) < a.length := by omega
      have hk0 : (0 : Int) ≤ k := by omega
      have hs := take_snoc hlt
      have hin := getD_mem hlt
      generalize a.getD k (0, 0, 0) = T at c0' c1' c2' hs hin
      obtain ⟨x, t, v⟩ := T
      simp only at c0' c1' c2'
      have HS := Lib.hid hs
      have HI := Lib.hid hin
      have DX := Lib.hid (fun A' L' c' (hl : L'.length ≤ 300) (ht : Tris w w.heap.size A' L') w' (h : Stood w w') => ((count_calls A' L' c' (x, t, v) w' (by unfold maxLen; omega) ((ht.below h (Nat.le_refl _)).more h.size)).mono fun e wx (r : _ ∧ _) => (⟨r.1, h.step r.2⟩ : _ ∧ Stood w wx)))
      have tA := HA.out
      have tB := HB.out
      have KC := Lib.hid (fun w' (h : Stood w w') => h.tri hg c0' c1' c2')
      obtain ⟨⟨c0, c1, c2⟩, -⟩ := KC.out _ ST.out
      clear hs hin c0' c1' c2'
      go_wp2_with fail
      have s0 := ST.out.drew
      go_region_with (go_at_call 38; refine (DX.out _ _ _ ?_ ?_ _ ?_).mono ?_; assumption; assumption; assumption; rintro e wx ⟨rfl, sx⟩; obtain ⟨⟨e0, e1, e2⟩, -⟩ := KC.out _ sx)
      all_goals
        have SX := Lib.hid (show Stood w _ from ‹Stood w wx›)
        clear tA tB DX
        have hmn : a.count (x, t, v) = b.count (x, t, v) ∨ ¬ a.count (x, t, v) = b.count (x, t, v) := Classical.em _
        rcases hmn with hc | hc
        · have HC := Lib.hid hc
          generalize a.count (x, t, v) = m at hc ⊢
          generalize b.count (x, t, v) = n at hc ⊢
          subst hc
          have hb : (((m : Nat) : Int) != (m : Nat)) = false := by simp
          go_wp2_with fail
          go_roundw
          case rel => exact ⟨k + 1, by omega, by go_num, SX.out, counts_snoc HS.out CS.out HC.out⟩
          case measure => simp [intOf]; omega
        · have HC := Lib.hid (sameBag_count hc)
          generalize a.count (x, t, v) = m at hc ⊢
          generalize b.count (x, t, v) = n at hc ⊢
          have hb : (((m : Nat) : Int) != (n : Nat)) = true := by simp; omega
          go_wp2_with fail
          go_ret
          exact ⟨by rw [HC.out]; rfl, SX.out⟩
    · have hk' : k = a.length := by omega
      have hcs := CS.out
      rw [show a.take k = a by rw [hk', List.take_length]] at hcs
      have HR := Lib.hid (sameBag_all h0 h1 hcs)
      clear hcs hk'
      go_wp2_with fail
      go_ret
      exact ⟨by rw [HR.out]; rfl, ST.out⟩

/-- spec.SameBag. -/
theorem specSame_calls (A B : Option Addr) (a b : List Tri) (ca cb : Nat) (w : World) (ha : a.length ≤ maxLen) (hb : b.length ≤ maxLen) (hA : Tris w w.heap.size A a) (hB : Tris w w.heap.size B b) :
    Calls Try.prog 16 #[.slice A a.length ca, .slice B b.length cb] w fun e w' => e = .returned (.bool (sameBag a b)) ∧ Below w.heap.size w w' := by
  by_cases h : 300 < a.length ∨ 300 < b.length
  · rw [sameBag_long h]
    refine (specSame_long A B a b ca cb w ha hb h).mono ?_
    rintro e w' ⟨rfl, rfl⟩
    exact ⟨rfl, Below.refl _ _⟩
  · exact specSame_short A B a b ca cb w hA hB (by omega) (by omega)
end Go.Proofs.Ytdljiccpppcljaa.Mx

import Derived.Test.YtjbnknccnhdapaaE12
import Derived.Test.YtjbnknccnhdapaaE07
import Derived.Test.YtjbnknccnhdapaaE06
import Derived.Test.YtjbnknccnhdapaaE03
import Derived.Test.YtjbnknccnhdapaaE01
import Derived.Test.YtjbnknccnhdapaaE04
import Derived.Test.YtjbnknccnhdapaaE02
namespace Go.Proofs.Ytjbnknccnhdapaa.Mx
open Go.ChangeShapes Go.WideShapes Go.ChangeAt Go.RowKit
set_option linter.unusedVariables false
set_option maxRecDepth 20000 in
set_option maxHeartbeats 4000000 in
theorem implSealOf_calls (key : Int) (A : Option Addr) (l : List Int) (cap : Nat) (hcap : l.length ≤ cap) (cnt : Int) (B : Option Addr) (L : List Tru) (tc : Nat) (w : World) (hn : l.length ≤ 1048576) (hA : Ints w .i64 w.heap.size A l) (hN : L.length ≤ 1048576) (hB : Trs w w.heap.size B L) (hI : TrusI L) (hc0 : I64 cnt) :
    Calls Try.prog 40 #[.agg #[.int .i64 key, .slice A l.length cap], .int .i64 cnt, .slice B L.length tc] w (NewSe w (sealN key l cnt L).1 (sealN key l cnt L).2.1 (sealN key l cnt L).2.2) := by
  have K0 := Lib.hid (show Kept w [(w.heap.size + 1, 38, #[.int .i64 0, .slice none 0 0, .int .i64 0]), (w.heap.size, 34, #[.int .i64 key, .slice A l.length cap])] _ from (((Kept.refl w).put1 _ _ #[.int .i64 key, .slice A l.length cap] rfl).put1 _ _ #[.int .i64 0, .slice none 0 0, .int .i64 0] (by simp)))
  have TS := Lib.hid (fun (u : World) (hb : Below w.heap.size w u) => implTrusts_calls key A B l cap hcap L tc u hn ((hA.below hb (Nat.le_refl _)).more hb.size) (by unfold maxLen; omega) ((hB.below hb (Nat.le_refl _)).more hb.size))
  have MC := Lib.hid (fun (u : World) (hb : Below w.heap.size w u) => implMac_calls key cnt A B l cap hcap L tc u hn ((hA.below hb (Nat.le_refl _)).more hb.size) hN ((hB.below hb (Nat.le_refl _)).more hb.size) hI hc0)
  have IN := Lib.hid (fun (u : World) => isSealCount_calls cnt u hc0)
  have CO0 := fun (h0 : 0 < L.length) (u : World) (hb : Below w.heap.size w u) => copiedT_calls B L tc u h0 hN ((hB.below hb (Nat.le_refl _)).more hb.size)
  clear hA hB hI hc0 hn hcap
  unfold sealN
  by_cases hr : 0 ≤ cnt ∧ cnt ≤ 10000
  · rw [decide_eq_true hr] at IN
    by_cases ht : trustsOk key l L
    · rw [trustsB_yes ht] at TS
      rw [if_pos ⟨ht, hr⟩]
      have CO := Lib.hid (CO0 (by have h1 := ht.2.1; have h2 := ht.1.2.1; omega))
      simp only []
      generalize macOf key l cnt L = mo at MC ⊢
      clear ht hr CO0
      go_enter Try.func40, Try.ntmps40
      go_wp2_with fail
      refine (IN.out _).mono ?_; rintro e w' ⟨rfl, rfl⟩
      go_wp2_with fail
      refine (TS.out _ K0.out.1).mono ?_; rintro e uz1 ⟨rfl, bz2⟩
      have hz3 := K0.out.below bz2
      clear bz2
      obtain ⟨kc0, kf0, kc1, kf1, -⟩ := hz3.rd
      go_upto_region 3 with fail
      have lm0 : w.heap.size < uz1.heap.size := hz3.lt (x := (w.heap.size, 34, #[.int .i64 key, .slice A l.length cap])) (by simp)
      have lm1 : w.heap.size + 1 < uz1.heap.size := hz3.lt (x := (w.heap.size + 1, 38, #[.int .i64 0, .slice none 0 0, .int .i64 0])) (by simp)
      have hn0 : Kept w [(w.heap.size, 34, #[.int .i64 key, .slice A l.length cap])] _ := hz3.sub (by intro y hy; simp at hy ⊢; subst hy; simp)
      have hcz := hz3.at_ (p := w.heap.size + 1) (t := 38) (cs := #[.int .i64 0, .slice none 0 0, .int .i64 0]) (by simp)
      have hok : OutB.Ok (⟨w.heap.size + 1, 38, 3, 8, [2], fun γ => #[.int .i64 cnt, γ 2, .int .i64 mo]⟩ : OutB) w (uz1.heap.size) [(w.heap.size, 34, #[.int .i64 key, .slice A l.length cap])] := ⟨by simp only [] <;> omega, by simp only [] <;> omega, by intro y hy; simp only [List.mem_cons, List.not_mem_nil, or_false] at hy; subst hy <;> (simp only []; omega), fun γ γ' ha => by simp only []; rw [ha 2 (by simp)], fun γ => rfl, by simp⟩
      have hstab : ∀ zz ∈ ([ownRow 2 w.heap.size 84 8 L.length (flatS truV L)] : List Own), zz.Stable := by
        intro y hy
        simp only [List.mem_cons, List.not_mem_nil, or_false] at hy
        subst hy; exact ownRow.stable _ _ _ _ _ _
      have hstart : ∀ γ, OwnR w (uz1.heap.size) [(w.heap.size, 34, #[.int .i64 key, .slice A l.length cap])] [ownRow 2 w.heap.size 84 8 L.length (flatS truV L)] (fun _ _ => false) (⟨w.heap.size + 1, 38, 3, 8, [2], fun γ => #[.int .i64 cnt, γ 2, .int .i64 mo]⟩ : OutB) (fun _ => false) γ _ := fun γ => OwnR.start hn0 hn0.1.size (Nat.le_refl _) (by intro y hy; simp only [List.mem_cons, List.not_mem_nil, or_false] at hy; subst hy <;> (simp only []; omega)) hcz rfl
      refine wp_region_free [false, false, true, false, false, false, true, false, true] (ShL [(2, fun v => ∃ (A : Option Addr) (c : Nat), v = .slice A L.length c), (6, fun v => v = .int .i64 mo)]) (fun D γ u => OwnR w (uz1.heap.size) [(w.heap.size, 34, #[.int .i64 key, .slice A l.length cap])] [ownRow 2 w.heap.size 84 8 L.length (flatS truV L)] (fun _ _ => false) (⟨w.heap.size + 1, 38, 3, 8, [2], fun γ => #[.int .i64 cnt, γ 2, .int .i64 mo]⟩ : OutB) D γ u) (by kernel_rfl) (by kernel_rfl) (fun γ => by kernel_rfl) (fun D γ γ' w ha h => h.loc hok ha) (ShL.inh _ ?inh) (fun γ => hstart γ) (fun γ hγ => ?_)
      case inh =>
        intro y hy
        simp only [List.mem_cons, List.not_mem_nil, or_false] at hy
        rcases hy with rfl | rfl
        · exact ⟨_, none, 0, rfl⟩
        · exact ⟨_, rfl⟩
      clear hstart hn0 hcz
      obtain ⟨A4, c4, g2⟩ : ∃ (A : Option Addr) (c : Nat), γ 2 = .slice A L.length c := hγ 2 rfl
      have g6 : γ 6 = .int .i64 mo := hγ 6 rfl
      have g8 : γ 8 = undef := hγ 8 rfl
      clear hz3 kc0 kf0 kc1 kf1
      apply Exists.intro
      refine ⟨fun D => ?_, ?_, ?_⟩
      · simp only [hushL, cond_true, cond_false, Nat.reduceAdd, g2, g6, g8]
        iterate 9 (first
          | go_big_quiet_skip
          | (go_big_quiet_want
             go_big_quiet_op
             first
               | go_big_quiet_on
               | (apply Exists.intro
                  refine ⟨fun u hu => ?_, ?_⟩
                  · first
                      | with_reducible rfl
                      | (obtain ⟨kc0, kf0, -⟩ := hu.1.1.1.rd; go_simp; first | done | with_reducible rfl)
                  go_big_quiet_on)))
        exact wpQuiet_nil rfl
      · simp only [freeOk, Nat.reduceAdd]
        refine ⟨fun D u hD hd hu => ?_, fun D u hD hd hu => ?_, fun D u hD hd hu => ?_, trivial⟩
        · refine steps_call ((CO.out u hu.1.1.1.1).mono ?_) rfl rfl rfl rfl (by kernel_rfl)
          rintro e w' ⟨v5, rfl, hrow, hb⟩
          obtain ⟨A5, c5, rfl, _, _⟩ := hrow.reads truV_len
          refine ⟨_, rfl, ⟨A5, c5, rfl⟩, ?_⟩
          exact hu.made hok hstab (z := ownRow 2 w.heap.size 84 8 L.length (flatS truV L)) (by simp) (by intro y hy; simp only [List.mem_cons, List.not_mem_nil, or_false] at hy; subst hy; exact .inl rfl) hD (Nat.ne_of_beq_eq_false rfl) hb (row_mono hrow hu.1.1.1.1.size) (fun g hg => row_fresh hrow g hg)
        · exact steps_call ((MC.out u hu.1.1.1.1).mono fun e w' ⟨he, hb⟩ => ⟨_, he, rfl, hu.below hok hstab hb hD _ (Nat.ne_of_beq_eq_false rfl) (by intro y hy; simp only [List.mem_cons, List.not_mem_nil, or_false] at hy; subst hy; exact ⟨Nat.ne_of_beq_eq_false rfl, Nat.ne_of_beq_eq_false rfl⟩)⟩) rfl rfl rfl rfl (by kernel_rfl)
        · obtain ⟨z, hz, hzs⟩ := hu.box
          refine steps_store hz rfl rfl (show _ = Value.agg #[.int .i64 cnt, .slice A4 L.length c4, .int .i64 mo] from rfl) (by kernel_rfl) hzs (by simp [Value.oneCell']) (fun w' hc hg => ⟨rfl, hu.stored hok hstab (by intro y hy; simp only [List.mem_cons, List.not_mem_nil, or_false] at hy; subst hy; exact ⟨Nat.ne_of_beq_eq_false rfl, Nat.ne_of_beq_eq_false rfl⟩) (by intro y hy; simp only [List.mem_cons, List.not_mem_nil, or_false] at hy; subst hy; exact hd { on := 2, ground := Ground.phase } (by simp) rfl rfl) hg ?_ _⟩)
          show CellsAt w' (w.heap.size + 1) 38 (#[.int .i64 cnt, γ 2, .int .i64 mo])
          simp only [g2]
          exact hc
      · intro D uf hD hu
        have ho2 : TrRow uf w.heap.size (γ 2) L := (hu.1.at_ (z := ownRow 2 w.heap.size 84 8 L.length (flatS truV L)) (by simp) (hD 2 (by simp) rfl)).1
        simp only [g2] at ho2
        obtain ⟨hres0, hf⟩ := hu.done (hD 8 (by simp) rfl)
        have hres : CellsAt uf (w.heap.size + 1) 38 (#[.int .i64 cnt, γ 2, .int .i64 mo]) := hres0
        simp only [g2] at hres
        clear hres0
        have d0 := hres.cell 0
        have d1 := hres.cell 1
        have d2 := hres.cell 2
        go_wp2_with fail
        exact bodyPost_ret (v := .agg #[.int .i64 cnt, .slice A4 L.length c4, .int .i64 mo]) (by simp [results, Try.results40, go_sem, d0, d1, d2]) rfl ⟨A4, c4, rfl, ho2, hf.1⟩
    · rw [trustsB_no ht] at TS
      rw [if_neg (fun h => ht h.1)]
      clear ht hr MC CO0
      go_enter Try.func40, Try.ntmps40
      go_wp2_with fail
      refine (IN.out _).mono ?_; rintro e w' ⟨rfl, rfl⟩
      go_wp2_with fail
      refine (TS.out _ K0.out.1).mono ?_; rintro e uz1 ⟨rfl, bz2⟩
      have hz3 := K0.out.below bz2
      clear bz2
      obtain ⟨kc0, kf0, kc1, kf1, -⟩ := hz3.rd
      go_wp2_with fail
      obtain ⟨w9, e9, ⟨d0, d1, d2⟩, hb9, _⟩ := seal_end (w := w) (x := .int .i64 0) (y := .slice none 0 0) (z := .int .i64 0) (hz3.at_ (p := w.heap.size + 1) (t := 38) (cs := #[.int .i64 0, .slice none 0 0, .int .i64 0]) (by simp)) hz3.1 (by omega)
      rw [e9]
      exact bodyPost_ret (v := .agg #[.int .i64 0, .slice none 0 0, .int .i64 0]) (by simp [results, Try.results40, go_sem, d0, d1, d2]) rfl ⟨none, 0, rfl, World.ownsRow_nil w9 _ _ _, hb9⟩
  · rw [decide_eq_false hr] at IN
    rw [if_neg (fun h => hr h.2)]
    clear MC CO0 TS hr
    go_enter Try.func40, Try.ntmps40
    go_wp2_with fail
    refine (IN.out _).mono ?_; rintro e w' ⟨rfl, rfl⟩
    have hk0 := K0.out
    go_wp2_with fail
    have hc := hk0.at_ (p := w.heap.size + 1) (t := 38) (cs := #[.int .i64 0, .slice none 0 0, .int .i64 0]) (by simp)
    have d0 := hc.cell 0
    have d1 := hc.cell 1
    have d2 := hc.cell 2
    exact bodyPost_ret (v := .agg #[.int .i64 0, .slice none 0 0, .int .i64 0]) (by simp [results, Try.results40, go_sem, d0, d1, d2]) rfl ⟨none, 0, rfl, World.ownsRow_nil _ _ _ _, hk0.1⟩
set_option maxRecDepth 20000 in
set_option maxHeartbeats 4000000 in
theorem implSealOk_calls (key : Int) (A : Option Addr) (l : List Int) (cap : Nat) (hcap : l.length ≤ cap) (cnt : Int) (B : Option Addr) (L : List Tru) (tc : Nat) (mac : Int) (w : World) (hn : l.length ≤ 1048576) (hA : Ints w .i64 w.heap.size A l) (hN : L.length ≤ 1048576) (hB : Trs w w.heap.size B L) (hI : TrusI L) (hc0 : I64 cnt) :
    Calls Try.prog 26 #[.agg #[.int .i64 key, .slice A l.length cap], .agg #[.int .i64 cnt, .slice B L.length tc, .int .i64 mac]] w fun e w' => e = .returned (.bool (sealB key l cnt L mac)) ∧ Below w.heap.size w w' := by
  have K0 := Lib.hid (show Kept w [(w.heap.size + 1, 38, #[.int .i64 cnt, .slice B L.length tc, .int .i64 mac]), (w.heap.size, 34, #[.int .i64 key, .slice A l.length cap])] _ from (((Kept.refl w).put1 _ _ #[.int .i64 key, .slice A l.length cap] rfl).put1 _ _ #[.int .i64 cnt, .slice B L.length tc, .int .i64 mac] (by simp)))
  have SO := Lib.hid (fun (u : World) (hb : Below w.heap.size w u) => implSealOf_calls key A l cap hcap cnt B L tc u hn ((hA.below hb (Nat.le_refl _)).more hb.size) hN ((hB.below hb (Nat.le_refl _)).more hb.size) hI hc0)
  clear hA hB hI hc0 hn hcap
  unfold sealN at SO
  unfold sealB
  by_cases h : trustsOk key l L ∧ 0 ≤ cnt ∧ cnt ≤ 10000
  · rw [if_pos h] at SO
    rw [trustsB_yes h.1, decide_eq_true h.2, Bool.true_and, Bool.true_and]
    have hl : 0 < L.length := by have h1 := h.1.2.1; have h2 := h.1.1.2.1; omega
    have hl2 : (0 : Int) < L.length := by omega
    simp only [] at SO
    generalize macOf key l cnt L = mo at SO ⊢
    clear h
    by_cases hm : mac = mo
    · have hb : (mo == mac) = true := beq_iff_eq.2 hm.symm
      rw [decide_eq_true hm]
      clear hm
      go_enter Try.func26, Try.ntmps26
      go_wp2_with fail
      refine (SO.out _ K0.out.1).mono ?_; rintro e w1 ⟨A', c', rfl, hrow, b1⟩
      have h1 := K0.out.below b1
      clear b1 hrow
      have h2 := h1.put1 w1.heap.size 38 #[.int .i64 cnt, .slice A' L.length c', .int .i64 mo] rfl
      have H2 := Lib.hid h2
      clear h1 K0
      go_upto_region 2 with fail
      obtain ⟨kc0, kf0, kc1, kf1, kc2, kf2, -⟩ := h2.rd
      clear h2
      go_wp2_with fail
      go_ret
      exact ⟨rfl, H2.out.1⟩
    · have hb : (mo == mac) = false := beq_false_of_ne (fun e => hm e.symm)
      rw [decide_eq_false hm]
      clear hm
      go_enter Try.func26, Try.ntmps26
      go_wp2_with fail
      refine (SO.out _ K0.out.1).mono ?_; rintro e w1 ⟨A', c', rfl, hrow, b1⟩
      have h1 := K0.out.below b1
      clear b1 hrow
      have h2 := h1.put1 w1.heap.size 38 #[.int .i64 cnt, .slice A' L.length c', .int .i64 mo] rfl
      have H2 := Lib.hid h2
      clear h1 K0
      go_upto_region 2 with fail
      obtain ⟨kc0, kf0, kc1, kf1, kc2, kf2, -⟩ := h2.rd
      clear h2
      go_wp2_with fail
      go_ret
      exact ⟨rfl, H2.out.1⟩
  · rw [if_neg h] at SO
    rw [show (trustsB key l L && decide (0 ≤ cnt ∧ cnt ≤ 10000) && decide (mac = macOf key l cnt L)) = false from by
      by_cases ht : trustsOk key l L
      · rw [decide_eq_false (fun h2 => h ⟨ht, h2⟩), Bool.and_false, Bool.false_and]
      · rw [trustsB_no ht, Bool.false_and, Bool.false_and]]
    simp only [] at SO
    clear h
    go_enter Try.func26, Try.ntmps26
    go_wp2_with fail
    refine (SO.out _ K0.out.1).mono ?_; rintro e w1 ⟨A', c', rfl, hrow, b1⟩
    have h1 := K0.out.below b1
    clear b1 hrow
    have h2 := h1.put1 w1.heap.size 38 #[.int .i64 0, .slice A' 0 c', .int .i64 0] rfl
    have H2 := Lib.hid h2
    clear h1 K0
    go_upto_region 2 with fail
    obtain ⟨kc0, kf0, kc1, kf1, kc2, kf2, -⟩ := h2.rd
    clear h2
    go_wp2_with fail
    go_ret
    exact ⟨rfl, H2.out.1⟩
end Go.Proofs.Ytjbnknccnhdapaa.Mx
namespace Go.Proofs.Ytjbnknccnhdapaa.Mx
open Go.ChangeShapes Go.WideShapes Go.ChangeAt Go.RowKit
set_option linter.unusedVariables false
theorem number_calls (m : Int) (w : World) : Calls Try.prog 88 #[.int .i64 m] w fun e w' => e = .returned (.int .i64 m) ∧ w = w' := by
  go_enter Try.func88, Try.ntmps88
  go_wp2_with fail
  go_ret
  exact ⟨rfl, rfl⟩
theorem inTime_yes (m : Int) (w : World) (h : isTm m) : Calls Try.prog 81 #[.int .i64 m] w fun e w' => e = .returned (.bool true) ∧ w = w' := by
  have C := Lib.hid (fun w => number_calls m w)
  have D := Lib.hid (fun w => isTime_yes m w h)
  clear h
  go_enter Try.func81, Try.ntmps81
  go_wp2_with fail
  refine (C.out _).mono ?_; rintro e w' ⟨rfl, rfl⟩
  go_wp2_with fail
  refine (D.out _).mono ?_; rintro e w' ⟨rfl, rfl⟩
  go_wp2_with fail
  go_ret
  exact ⟨rfl, rfl⟩
theorem inTime_no (m : Int) (w : World) (h : ¬ isTm m) : Calls Try.prog 81 #[.int .i64 m] w fun e w' => e = .returned (.bool false) ∧ w = w' := by
  have C := Lib.hid (fun w => number_calls m w)
  have D := Lib.hid (fun w => isTime_no m w h)
  clear h
  go_enter Try.func81, Try.ntmps81
  go_wp2_with fail
  refine (C.out _).mono ?_; rintro e w' ⟨rfl, rfl⟩
  go_wp2_with fail
  refine (D.out _).mono ?_; rintro e w' ⟨rfl, rfl⟩
  go_wp2_with fail
  go_ret
  exact ⟨rfl, rfl⟩
theorem isRight_calls (t v : Int) (w : World) :
    Calls Try.prog 73 #[.agg #[.int .i64 t, .int .i64 v]] w fun e w' => e = .returned (.bool (decide (isCell t v))) ∧ Below w.heap.size w w' := by
  by_cases ht : isTm t
  · have D := Lib.hid (fun w => inTime_yes t w ht)
    by_cases hv : isVal v
    · have E := Lib.hid (fun w => isValue_yes v w hv)
      rw [decide_eq_true (show isCell t v from ⟨ht, hv⟩)]
      clear ht hv
      go_enter Try.func73, Try.ntmps73
      go_wp2_with fail
      refine (D.out _).mono ?_; rintro e w' ⟨rfl, rfl⟩
      go_wp2_with fail
      refine (E.out _).mono ?_; rintro e w' ⟨rfl, rfl⟩
      go_wp2_with fail
      go_ret
      exact ⟨rfl, (Below.refl _ _).alloc (Nat.le_refl _) _⟩
    · have E := Lib.hid (fun w => isValue_no v w hv)
      rw [decide_eq_false (show ¬ isCell t v from fun h => hv h.2)]
      clear ht hv
      go_enter Try.func73, Try.ntmps73
      go_wp2_with fail
      refine (D.out _).mono ?_; rintro e w' ⟨rfl, rfl⟩
      go_wp2_with fail
      refine (E.out _).mono ?_; rintro e w' ⟨rfl, rfl⟩
      go_wp2_with fail
      go_ret
      exact ⟨rfl, (Below.refl _ _).alloc (Nat.le_refl _) _⟩
  · have D := Lib.hid (fun w => inTime_no t w ht)
    rw [decide_eq_false (show ¬ isCell t v from fun h => ht h.1)]
    clear ht
    go_enter Try.func73, Try.ntmps73
    go_wp2_with fail
    refine (D.out _).mono ?_; rintro e w' ⟨rfl, rfl⟩
    go_wp2_with fail
    go_ret
    exact ⟨rfl, (Below.refl _ _).alloc (Nat.le_refl _) _⟩
theorem timedOf_calls (t v : Int) (w : World) :
    Calls Try.prog 72 #[.agg #[.int .i64 t, .int .i64 v]] w fun e w' => e = .returned (.agg #[.int .i64 t, .int .i64 v]) ∧ Below w.heap.size w w' := by
  go_enter Try.func72, Try.ntmps72
  go_wp2_with fail
  exact bodyPost_ret (v := .agg #[.int .i64 t, .int .i64 v]) (by simp [results, Try.results72, go_sem]) rfl ⟨rfl, ((Below.refl _ _).alloc (Nat.le_refl _) _).alloc (by simp) _⟩
end Go.Proofs.Ytjbnknccnhdapaa.Mx
namespace Go.Proofs.Ytjbnknccnhdapaa.Mx
open Go.ChangeShapes Go.WideShapes Go.ChangeAt Go.RowKit
set_option linter.unusedVariables false
theorem implCellOk_calls (t v : Int) (w : World) :
    Calls Try.prog 61 #[.agg #[.int .i64 t, .int .i64 v]] w fun e w' => e = .returned (.bool (decide (isCell t v))) ∧ Below w.heap.size w w' := by
  have C := Lib.hid (fun w => timedOf_calls t v w)
  have D := Lib.hid (fun w => isRight_calls t v w)
  generalize decide (isCell t v) = b at D
  go_enter Try.func61, Try.ntmps61
  go_wp2_with fail
  refine (C.out _).mono ?_; rintro e w1 ⟨rfl, b1⟩
  have B1 := Lib.hid (((Below.refl w.heap.size w).alloc (Nat.le_refl _) _).trans (b1.mono (by simp)))
  clear b1
  go_wp2_with fail
  refine (D.out _).mono ?_; rintro e w2 ⟨rfl, b2⟩
  have B2 := Lib.hid (B1.out.trans (b2.mono B1.out.size))
  clear b2
  go_wp2_with fail
  go_ret
  exact ⟨rfl, B2.out⟩
theorem isNoCell_calls (t v : Int) (w : World) :
    Calls Try.prog 43 #[.agg #[.int .i64 t, .int .i64 v]] w fun e w' => e = .returned (.bool (!decide (isCell t v))) ∧ Below w.heap.size w w' := by
  have K0 := Lib.hid (show Kept w [(w.heap.size, 73, #[.int .i64 t, .int .i64 v])] _ from (Kept.refl w).put1 _ _ #[.int .i64 t, .int .i64 v] rfl)
  have D := Lib.hid (fun w => implCellOk_calls t v w)
  generalize decide (isCell t v) = b at D
  go_enter Try.func43, Try.ntmps43
  have k0 := K0.out
  clear K0
  obtain ⟨kc0, kf0, -⟩ := k0.rd
  have K0 := Lib.hid k0
  clear k0
  go_wp2_with fail
  refine (D.out _).mono ?_; rintro e w1 ⟨rfl, b1⟩
  have K1 := Lib.hid (K0.out.below b1)
  clear b1
  go_wp2_with fail
  go_ret
  exact ⟨rfl, K1.out.1⟩
open Classical in
noncomputable def upB (L : List Ce) : Bool := decide (UpToCell L L.length)
open Classical in
theorem upB_yes {L : List Ce} (h : UpToCell L L.length) : upB L = true := by unfold upB; exact decide_eq_true h
open Classical in
theorem upB_no {L : List Ce} (h : ¬ UpToCell L L.length) : upB L = false := by unfold upB; exact decide_eq_false h
theorem cells_index (A : Option Addr) (L : List Ce) (cap : Nat) (w : World) (hn : L.length ≤ maxLen) (hA : Cls w w.heap.size A L) :
    Calls Try.prog 60 #[.slice A L.length cap, .func (.func 43) #[] #[]] w fun e w' => (∃ i : Int, e = .returned (.int .i64 i) ∧ decide (0 ≤ i) = !upB L) ∧ Below w.heap.size w w' := by
  unfold maxLen at hn
  have C := Lib.hid isNoCell_calls
  have HA := Lib.hid hA
  clear hA
  go_enter Try.func60, Try.ntmps60
  go_wp2_with fail
  go_loopw [8] (fun i wr => ∃ k : Nat, k ≤ L.length ∧ i = .int .i64 k ∧ UpToCell L k ∧ Below w.heap.size w wr) (fun i _ => L.length - (intOf i).toNat)
  case atStart => exact ⟨0, Nat.zero_le _, rfl, fun i hi => absurd hi (by omega), Below.refl _ _⟩
  case round =>
    obtain ⟨k, hk, rfl, hup, hz⟩ := hrel
    have HU := Lib.hid hup
    have HZ := Lib.hid hz
    clear hup
    by_cases hlt : k < L.length
    · obtain ⟨b, off, rfl, hb, hc⟩ := HA.out.at_ hlt
      have hlt' : (k : Int) < L.length := by omega
      have hk0 : (0 : Int) ≤ k := by omega
      obtain ⟨c0, c1⟩ := hc.below hz hb
      clear hz hc
      by_cases hok : isCell (L.getD k default).1 (L.getD k default).2
      · have NX := Lib.hid (show UpToCell L (k + 1) from fun i hi => by
          rcases Nat.lt_or_ge i k with h | h
          · exact HU.out i h
          · obtain rfl : i = k := by omega
            exact hok)
        have TB := Lib.hid (C.out (L.getD k default).1 (L.getD k default).2)
        rw [decide_eq_true hok] at TB
        clear hok HU
        generalize L.getD k default = t at TB c0 c1
        go_wp2_with fail
        refine (TB.out _).mono ?_; rintro e w1 ⟨rfl, b1⟩
        have H1 := Lib.hid (HZ.out.trans (b1.mono HZ.out.size))
        clear b1 c0 c1
        go_wp2_with fail
        go_roundw
        case rel => exact ⟨k + 1, by omega, by go_num, NX.out, H1.out⟩
        case measure => simp [intOf]; omega
      · have HX := Lib.hid (show decide ((0 : Int) ≤ k) = !upB L by rw [decide_eq_true hk0, upB_no (fun h => hok (h k hlt))]; rfl)
        have TB := Lib.hid (C.out (L.getD k default).1 (L.getD k default).2)
        rw [decide_eq_false hok] at TB
        clear hok HU
        generalize L.getD k default = t at TB c0 c1
        go_wp2_with fail
        refine (TB.out _).mono ?_; rintro e w1 ⟨rfl, b1⟩
        have H1 := Lib.hid (HZ.out.trans (b1.mono HZ.out.size))
        clear b1 c0 c1
        go_wp2_with fail
        go_ret
        exact ⟨⟨_, rfl, HX.out⟩, H1.out⟩
    · have hk' : k = L.length := by omega
      subst hk'
      have HX := Lib.hid (show decide ((0 : Int) ≤ -1) = !upB L by rw [upB_yes HU.out]; rfl)
      clear HU hz
      go_wp2_with fail
      go_ret
      exact ⟨⟨_, rfl, HX.out⟩, HZ.out⟩
theorem cells_contains (A : Option Addr) (L : List Ce) (cap : Nat) (w : World) (hn : L.length ≤ maxLen) (hA : Cls w w.heap.size A L) :
    Calls Try.prog 42 #[.slice A L.length cap, .func (.func 43) #[] #[]] w fun e w' => e = .returned (.bool (!upB L)) ∧ Below w.heap.size w w' := by
  have C := Lib.hid (cells_index A L cap w hn hA)
  generalize (!upB L) = b at C
  clear hA
  unfold maxLen at hn
  go_enter Try.func42, Try.ntmps42
  go_wp2_with fail
  refine C.out.mono ?_; rintro e w1 ⟨⟨i, rfl, hi⟩, b1⟩
  have B1 := Lib.hid b1
  clear b1 C
  by_cases h0 : 0 ≤ i
  · rw [decide_eq_true h0] at hi
    subst hi
    go_wp2_with fail
    go_ret
    exact ⟨rfl, B1.out⟩
  · rw [decide_eq_false h0] at hi
    subst hi
    have hneg : decide (0 ≤ i) = false := decide_eq_false h0
    clear h0
    go_wp2_with fail
    go_ret
    exact ⟨by rw [← hneg]; rfl, B1.out⟩
set_option maxRecDepth 20000 in
theorem implCells_calls (key : Int) (A C : Option Addr) (l : List Int) (cap : Nat) (hcap : l.length ≤ cap) (L : List Ce) (cap2 : Nat) (w : World) (hn : l.length ≤ maxLen) (hA : Ints w .i64 w.heap.size A l) (hN : L.length ≤ maxLen) (hC : Cls w w.heap.size C L) :
    Calls Try.prog 27 #[.agg #[.int .i64 key, .slice A l.length cap], .slice C L.length cap2] w fun e w' => e = .returned (.bool (cellsB key l L)) ∧ Below w.heap.size w w' := by
  have K0 := Lib.hid (show Kept w [(w.heap.size, 34, #[.int .i64 key, .slice A l.length cap])] _ from (Kept.refl w).put1 _ _ #[.int .i64 key, .slice A l.length cap] rfl)
  have PO := Lib.hid (fun (u : World) (hb : Below w.heap.size w u) => sectorsOf_calls key A l cap u hn hcap ((hA.below hb (Nat.le_refl _)).more hb.size))
  have CO := Lib.hid (fun (u : World) (hb : Below w.heap.size w u) => cells_contains C L cap2 u hN ((hC.below hb (Nat.le_refl _)).more hb.size))
  clear hA hC hn hcap
  unfold maxLen at hN
  by_cases hs : (L.length : Int) = sectorsOf key l
  · have hbl : ((L.length : Int) == sectorsOf key l) = true := beq_iff_eq.2 hs
    have HX := Lib.hid (show upB L = cellsB key l L from by
      by_cases h : UpToCell L L.length
      · rw [upB_yes h, cellsB_yes (show cellsOk key l L from ⟨h, hs⟩)]
      · rw [upB_no h, cellsB_no (show ¬ cellsOk key l L from fun e => h e.1)])
    generalize upB L = b at CO HX
    generalize cellsB key l L = z at HX ⊢
    obtain rfl := HX.out
    generalize sectorsOf key l = ss at PO hbl
    clear hs HX
    go_enter Try.func27, Try.ntmps27
    go_wp2_with fail
    refine (PO.out _ K0.out.1).mono ?_; rintro e uz1 ⟨rfl, bz2⟩
    have hz3 := K0.out.below bz2
    clear bz2
    obtain ⟨kc0, kf0, -⟩ := hz3.rd
    go_wp2_with fail
    refine (CO.out _ hz3.1).mono ?_; rintro e uz4 ⟨rfl, bz5⟩
    have hz6 := hz3.below bz5
    clear bz5 hz3 kc0 kf0
    obtain ⟨kc0, kf0, -⟩ := hz6.rd
    go_wp2_with fail
    go_ret
    exact ⟨by simp, hz6.1⟩
  · have hbl : ((L.length : Int) == sectorsOf key l) = false := beq_false_of_ne hs
    have HX := Lib.hid (cellsB_no (show ¬ cellsOk key l L from fun h => hs h.2))
    generalize sectorsOf key l = ss at PO hbl
    clear hs CO
    go_enter Try.func27, Try.ntmps27
    go_wp2_with fail
    refine (PO.out _ K0.out.1).mono ?_; rintro e uz1 ⟨rfl, bz2⟩
    have hz3 := K0.out.below bz2
    clear bz2
    obtain ⟨kc0, kf0, -⟩ := hz3.rd
    go_wp2_with fail
    go_ret
    exact ⟨by rw [HX.out]; rfl, hz3.1⟩
end Go.Proofs.Ytjbnknccnhdapaa.Mx

import Derived.Test.YtodmponjjhokdaaE08
import Derived.Test.YtodmponjjhokdaaE06
import Derived.Deep.OwnRows
import Derived.Deep.RegionWith
namespace Go.Proofs.Ytodmponjjhokdaa.Mx
open Go.ChangeShapes Go.WideShapes Go.ChangeAt Go.RowKit
set_option linter.unusedVariables false
def blkOf (v : Value) : List Nat := match v with | .slice (some a) _ _ => [a.block] | _ => []
theorem row_fresh {u w' : World} {t size n : Nat} {v : Value} {xs : List Value} (h : w'.ownsRow u.heap.size t size v n xs) : ∀ g ∈ blkOf v, u.heap.size ≤ g ∧ g < w'.heap.size := by
  intro g hg
  unfold blkOf at hg
  split at hg
  · rename_i a _ _
    simp only [List.mem_singleton] at hg
    subst hg
    exact World.ownsRow.lt h a.block rfl
  · cases hg
noncomputable def sealN (key : Int) (l : List Int) (cnt : Int) (L : List Tru) : Int × List Tru × Int :=
  open Classical in if trustsOk key l L ∧ (0 ≤ cnt ∧ cnt ≤ 10000) then (cnt, L, macOf key l cnt L) else (0, [], 0)
set_option maxRecDepth 20000 in
set_option maxHeartbeats 4000000 in
theorem specSealOf_calls (key : Int) (A : Option Addr) (l : List Int) (cap : Nat) (cnt : Int) (B : Option Addr) (L : List Tru) (tc : Nat) (w : World) (hn : l.length ≤ maxLen) (hA : Ints w .i64 w.heap.size A l) (hN : L.length ≤ 1048576) (hB : Trs w w.heap.size B L) (hI : TrusI L) (hc0 : I64 cnt) :
    Calls Try.prog 14 #[.agg #[.int .i64 key, .slice A l.length cap], .int .i64 cnt, .slice B L.length tc] w (NewSe w (sealN key l cnt L).1 (sealN key l cnt L).2.1 (sealN key l cnt L).2.2) := by
  have K0 := Lib.hid (show Kept w [(w.heap.size + 1, 37, #[.int .i64 0, .slice none 0 0, .int .i64 0]), (w.heap.size, 29, #[.int .i64 key, .slice A l.length cap])] _ from (((Kept.refl w).put1 _ _ #[.int .i64 key, .slice A l.length cap] rfl).put1 _ _ #[.int .i64 0, .slice none 0 0, .int .i64 0] (by simp)))
  have TS := Lib.hid (fun (u : World) (hb : Below w.heap.size w u) => l10Trusts_calls key A B l cap L tc u hn ((hA.below hb (Nat.le_refl _)).more hb.size) (by unfold maxLen; omega) ((hB.below hb (Nat.le_refl _)).more hb.size))
  have MC := Lib.hid (fun (u : World) (hb : Below w.heap.size w u) => specMac_calls key cnt A B l cap L tc u hn ((hA.below hb (Nat.le_refl _)).more hb.size) hN ((hB.below hb (Nat.le_refl _)).more hb.size) hI hc0)
  have IN := Lib.hid (fun (u : World) => l1In_b cnt 0 10000 _ u rfl)
  have CO := Lib.hid (fun (u : World) (hb : Below w.heap.size w u) => l10Copy_calls B L tc u hN ((hB.below hb (Nat.le_refl _)).more hb.size))
  clear hA hB hI hc0 hn
  unfold sealN
  by_cases ht : trustsOk key l L
  · rw [trustsB_yes ht] at TS
    by_cases hr : 0 ≤ cnt ∧ cnt ≤ 10000
    · rw [decide_eq_true hr] at IN
      rw [if_pos ⟨ht, hr⟩]
      simp only []
      generalize macOf key l cnt L = mo at MC ⊢
      clear ht hr
      go_enter Try.func14, Try.ntmps14
      go_wp2_with fail
      refine (TS.out _ K0.out.1).mono ?_; rintro e uz1 ⟨rfl, bz2⟩
      have hz3 := K0.out.below bz2
      clear bz2
      obtain ⟨kc0, kf0, kc1, kf1, -⟩ := hz3.rd
      go_wp2_with fail
      refine (IN.out _).mono ?_; rintro e w' ⟨rfl, rfl⟩
      go_upto_region 3 with fail
      have lm0 : w.heap.size < uz1.heap.size := hz3.lt (x := (w.heap.size, 29, #[.int .i64 key, .slice A l.length cap])) (by simp)
      have lm1 : w.heap.size + 1 < uz1.heap.size := hz3.lt (x := (w.heap.size + 1, 37, #[.int .i64 0, .slice none 0 0, .int .i64 0])) (by simp)
      have hn0 : Kept w [(w.heap.size, 29, #[.int .i64 key, .slice A l.length cap])] _ := hz3.sub (by intro y hy; simp at hy ⊢; subst hy; simp)
      have hcz := hz3.at_ (p := w.heap.size + 1) (t := 37) (cs := #[.int .i64 0, .slice none 0 0, .int .i64 0]) (by simp)
      have hok : OutB.Ok (⟨w.heap.size + 1, 37, 3, 8, [2], fun γ => #[.int .i64 cnt, γ 2, .int .i64 mo]⟩ : OutB) w (uz1.heap.size) [(w.heap.size, 29, #[.int .i64 key, .slice A l.length cap])] := ⟨by simp only [] <;> omega, by simp only [] <;> omega, by intro y hy; simp only [List.mem_cons, List.not_mem_nil, or_false] at hy; subst hy <;> (simp only []; omega), fun γ γ' ha => by simp only []; rw [ha 2 (by simp)], fun γ => rfl, by simp⟩
      have hstab : ∀ zz ∈ ([ownRow 2 w.heap.size 52 8 L.length (flatS truV L)] : List Own), zz.Stable := by
        intro y hy
        simp only [List.mem_cons, List.not_mem_nil, or_false] at hy
        subst hy; exact ownRow.stable _ _ _ _ _ _
      have hstart : ∀ γ, OwnR w (uz1.heap.size) [(w.heap.size, 29, #[.int .i64 key, .slice A l.length cap])] [ownRow 2 w.heap.size 52 8 L.length (flatS truV L)] (fun _ _ => false) (⟨w.heap.size + 1, 37, 3, 8, [2], fun γ => #[.int .i64 cnt, γ 2, .int .i64 mo]⟩ : OutB) (fun _ => false) γ _ := fun γ => OwnR.start hn0 hn0.1.size (Nat.le_refl _) (by intro y hy; simp only [List.mem_cons, List.not_mem_nil, or_false] at hy; subst hy <;> (simp only []; omega)) hcz rfl
      refine wp_region_free [false, false, true, false, false, false, true, false, true] (ShL [(2, fun v => ∃ (A : Option Addr) (c : Nat), v = .slice A L.length c), (6, fun v => v = .int .i64 mo)]) (fun D γ u => OwnR w (uz1.heap.size) [(w.heap.size, 29, #[.int .i64 key, .slice A l.length cap])] [ownRow 2 w.heap.size 52 8 L.length (flatS truV L)] (fun _ _ => false) (⟨w.heap.size + 1, 37, 3, 8, [2], fun γ => #[.int .i64 cnt, γ 2, .int .i64 mo]⟩ : OutB) D γ u) (by kernel_rfl) (by kernel_rfl) (fun γ => by kernel_rfl) (fun D γ γ' w ha h => h.loc hok ha) (ShL.inh _ ?inh) (fun γ => hstart γ) (fun γ hγ => ?_)
      case inh =>
        intro y hy
        simp only [List.mem_cons, List.not_mem_nil, or_false] at hy
        rcases hy with rfl | rfl
        · exact ⟨_, none, 0, rfl⟩
        · exact ⟨_, rfl⟩
      clear hstart hn0 hcz
      obtain ⟨A4, c4, g2⟩ : ∃ (A : Option Addr) (c : Nat), γ 2 = .slice A L.length c := hγ 2 rfl
      have g6 : γ 6 = .int .i64 mo := hγ 6 rfl
      have g8 : γ 8 = undef := hγ 8 rfl
      clear hz3 kc0 kf0 kc1 kf1
      apply Exists.intro
      refine ⟨fun D => ?_, ?_, ?_⟩
      · simp only [hushL, cond_true, cond_false, Nat.reduceAdd, g2, g6, g8]
        iterate 9 (first
          | go_big_quiet_skip
          | (go_big_quiet_want
             go_big_quiet_op
             first
               | go_big_quiet_on
               | (apply Exists.intro
                  refine ⟨fun u hu => ?_, ?_⟩
                  · first
                      | with_reducible rfl
                      | (obtain ⟨kc0, kf0, -⟩ := hu.1.1.1.rd; go_simp; first | done | with_reducible rfl)
                  go_big_quiet_on)))
        exact wpQuiet_nil rfl
      · simp only [freeOk, Nat.reduceAdd]
        refine ⟨fun D u hD hd hu => ?_, fun D u hD hd hu => ?_, fun D u hD hd hu => ?_, trivial⟩
        · refine steps_call ((CO.out u hu.1.1.1.1).mono ?_) rfl rfl rfl rfl (by kernel_rfl)
          rintro e w' ⟨v5, rfl, hrow, hb⟩
          obtain ⟨A5, c5, rfl, _, _⟩ := hrow.reads truV_len
          refine ⟨_, rfl, ⟨A5, c5, rfl⟩, ?_⟩
          exact hu.made hok hstab (z := ownRow 2 w.heap.size 52 8 L.length (flatS truV L)) (by simp) (by intro y hy; simp only [List.mem_cons, List.not_mem_nil, or_false] at hy; subst hy; exact .inl rfl) hD (Nat.ne_of_beq_eq_false rfl) hb (row_mono hrow hu.1.1.1.1.size) (fun g hg => row_fresh hrow g hg)
        · exact steps_call ((MC.out u hu.1.1.1.1).mono fun e w' ⟨he, hb⟩ => ⟨_, he, rfl, hu.below hok hstab hb hD _ (Nat.ne_of_beq_eq_false rfl) (by intro y hy; simp only [List.mem_cons, List.not_mem_nil, or_false] at hy; subst hy; exact ⟨Nat.ne_of_beq_eq_false rfl, Nat.ne_of_beq_eq_false rfl⟩)⟩) rfl rfl rfl rfl (by kernel_rfl)
        · obtain ⟨z, hz, hzs⟩ := hu.box
          refine steps_store hz rfl rfl (show _ = Value.agg #[.int .i64 cnt, .slice A4 L.length c4, .int .i64 mo] from rfl) (by kernel_rfl) hzs (by simp [Value.oneCell']) (fun w' hc hg => ⟨rfl, hu.stored hok hstab (by intro y hy; simp only [List.mem_cons, List.not_mem_nil, or_false] at hy; subst hy; exact ⟨Nat.ne_of_beq_eq_false rfl, Nat.ne_of_beq_eq_false rfl⟩) (by intro y hy; simp only [List.mem_cons, List.not_mem_nil, or_false] at hy; subst hy; exact hd { on := 2, ground := Ground.phase } (by simp) rfl rfl) hg ?_ _⟩)
          show CellsAt w' (w.heap.size + 1) 37 (#[.int .i64 cnt, γ 2, .int .i64 mo])
          simp only [g2]
          exact hc
      · intro D uf hD hu
        have ho2 : TrRow uf w.heap.size (γ 2) L := (hu.1.at_ (z := ownRow 2 w.heap.size 52 8 L.length (flatS truV L)) (by simp) (hD 2 (by simp) rfl)).1
        simp only [g2] at ho2
        obtain ⟨hres0, hf⟩ := hu.done (hD 8 (by simp) rfl)
        have hres : CellsAt uf (w.heap.size + 1) 37 (#[.int .i64 cnt, γ 2, .int .i64 mo]) := hres0
        simp only [g2] at hres
        clear hres0
        have d0 := hres.cell 0
        have d1 := hres.cell 1
        have d2 := hres.cell 2
        go_wp2_with fail
        exact bodyPost_ret (v := .agg #[.int .i64 cnt, .slice A4 L.length c4, .int .i64 mo]) (by simp [results, Try.results14, go_sem, d0, d1, d2]) rfl ⟨A4, c4, rfl, ho2, hf.1⟩
    · rw [decide_eq_false hr] at IN
      rw [if_neg (fun h => hr h.2)]
      clear ht hr MC CO
      go_enter Try.func14, Try.ntmps14
      go_wp2_with fail
      refine (TS.out _ K0.out.1).mono ?_; rintro e uz1 ⟨rfl, bz2⟩
      have hz3 := K0.out.below bz2
      clear bz2
      obtain ⟨kc0, kf0, kc1, kf1, -⟩ := hz3.rd
      go_wp2_with fail
      refine (IN.out _).mono ?_; rintro e w' ⟨rfl, rfl⟩
      go_wp2_with fail
      obtain ⟨w9, e9, ⟨d0, d1, d2⟩, hb9, _⟩ := seal_end (w := w) (x := .int .i64 0) (y := .slice none 0 0) (z := .int .i64 0) (hz3.at_ (p := w.heap.size + 1) (t := 37) (cs := #[.int .i64 0, .slice none 0 0, .int .i64 0]) (by simp)) hz3.1 (by omega)
      rw [e9]
      exact bodyPost_ret (v := .agg #[.int .i64 0, .slice none 0 0, .int .i64 0]) (by simp [results, Try.results14, go_sem, d0, d1, d2]) rfl ⟨none, 0, rfl, World.ownsRow_nil w9 _ _ _, hb9⟩
  · rw [trustsB_no ht] at TS
    rw [if_neg (fun h => ht h.1)]
    clear ht MC CO IN
    go_enter Try.func14, Try.ntmps14
    go_wp2_with fail
    refine (TS.out _ K0.out.1).mono ?_; rintro e uz1 ⟨rfl, bz2⟩
    have hz3 := K0.out.below bz2
    clear bz2
    obtain ⟨kc0, kf0, kc1, kf1, -⟩ := hz3.rd
    go_wp2_with fail
    obtain ⟨w9, e9, ⟨d0, d1, d2⟩, hb9, _⟩ := seal_end (w := w) (x := .int .i64 0) (y := .slice none 0 0) (z := .int .i64 0) (hz3.at_ (p := w.heap.size + 1) (t := 37) (cs := #[.int .i64 0, .slice none 0 0, .int .i64 0]) (by simp)) hz3.1 (by omega)
    rw [e9]
    exact bodyPost_ret (v := .agg #[.int .i64 0, .slice none 0 0, .int .i64 0]) (by simp [results, Try.results14, go_sem, d0, d1, d2]) rfl ⟨none, 0, rfl, World.ownsRow_nil w9 _ _ _, hb9⟩
end Go.Proofs.Ytodmponjjhokdaa.Mx
namespace Go.Proofs.Ytodmponjjhokdaa.Mx
open Go.ChangeShapes Go.WideShapes Go.ChangeAt Go.RowKit
set_option linter.unusedVariables false
set_option maxRecDepth 20000 in
set_option maxHeartbeats 4000000 in
theorem implSealOf_calls (key : Int) (A : Option Addr) (l : List Int) (cap : Nat) (hcap : l.length ≤ cap) (cnt : Int) (B : Option Addr) (L : List Tru) (tc : Nat) (w : World) (hn : l.length ≤ 1048576) (hA : Ints w .i64 w.heap.size A l) (hN : L.length ≤ 1048576) (hB : Trs w w.heap.size B L) (hI : TrusI L) (hc0 : I64 cnt) :
    Calls Try.prog 15 #[.agg #[.int .i64 key, .slice A l.length cap], .int .i64 cnt, .slice B L.length tc] w (NewSe w (sealN key l cnt L).1 (sealN key l cnt L).2.1 (sealN key l cnt L).2.2) := by
  have K0 := Lib.hid (show Kept w [(w.heap.size + 1, 37, #[.int .i64 0, .slice none 0 0, .int .i64 0]), (w.heap.size, 29, #[.int .i64 key, .slice A l.length cap])] _ from (((Kept.refl w).put1 _ _ #[.int .i64 key, .slice A l.length cap] rfl).put1 _ _ #[.int .i64 0, .slice none 0 0, .int .i64 0] (by simp)))
  have TS := Lib.hid (fun (u : World) (hb : Below w.heap.size w u) => implTrusts_calls key A B l cap hcap L tc u hn ((hA.below hb (Nat.le_refl _)).more hb.size) (by unfold maxLen; omega) ((hB.below hb (Nat.le_refl _)).more hb.size))
  have MC := Lib.hid (fun (u : World) (hb : Below w.heap.size w u) => implMac_calls key cnt A B l cap hcap L tc u hn ((hA.below hb (Nat.le_refl _)).more hb.size) hN ((hB.below hb (Nat.le_refl _)).more hb.size) hI hc0)
  have IN := Lib.hid (fun (u : World) => isSealCount_calls cnt u hc0)
  have CO0 := fun (h0 : 0 < L.length) (u : World) (hb : Below w.heap.size w u) => copiedT_calls B L tc u h0 hN ((hB.below hb (Nat.le_refl _)).more hb.size)
  clear hA hB hI hc0 hn hcap
  unfold sealN
  by_cases hr : 0 ≤ cnt ∧ cnt ≤ 10000
  · rw [decide_eq_true hr] at IN
    by_cases ht : trustsOk key l L
    · rw [trustsB_yes ht] at TS
      rw [if_pos ⟨ht, hr⟩]
      have CO := Lib.hid (CO0 (by have h1 := ht.2.1; have h2 := ht.1.2.1; omega))
      simp only []
      generalize macOf key l cnt L = mo at MC ⊢
      clear ht hr CO0
      go_enter Try.func15, Try.ntmps15
      go_wp2_with fail
      refine (IN.out _).mono ?_; rintro e w' ⟨rfl, rfl⟩
      go_wp2_with fail
      refine (TS.out _ K0.out.1).mono ?_; rintro e uz1 ⟨rfl, bz2⟩
      have hz3 := K0.out.below bz2
      clear bz2
      obtain ⟨kc0, kf0, kc1, kf1, -⟩ := hz3.rd
      go_upto_region 3 with fail
      have lm0 : w.heap.size < uz1.heap.size := hz3.lt (x := (w.heap.size, 29, #[.int .i64 key, .slice A l.length cap])) (by simp)
      have lm1 : w.heap.size + 1 < uz1.heap.size := hz3.lt (x := (w.heap.size + 1, 37, #[.int .i64 0, .slice none 0 0, .int .i64 0])) (by simp)
      have hn0 : Kept w [(w.heap.size, 29, #[.int .i64 key, .slice A l.length cap])] _ := hz3.sub (by intro y hy; simp at hy ⊢; subst hy; simp)
      have hcz := hz3.at_ (p := w.heap.size + 1) (t := 37) (cs := #[.int .i64 0, .slice none 0 0, .int .i64 0]) (by simp)
      have hok : OutB.Ok (⟨w.heap.size + 1, 37, 3, 8, [2], fun γ => #[.int .i64 cnt, γ 2, .int .i64 mo]⟩ : OutB) w (uz1.heap.size) [(w.heap.size, 29, #[.int .i64 key, .slice A l.length cap])] := ⟨by simp only [] <;> omega, by simp only [] <;> omega, by intro y hy; simp only [List.mem_cons, List.not_mem_nil, or_false] at hy; subst hy <;> (simp only []; omega), fun γ γ' ha => by simp only []; rw [ha 2 (by simp)], fun γ => rfl, by simp⟩
      have hstab : ∀ zz ∈ ([ownRow 2 w.heap.size 52 8 L.length (flatS truV L)] : List Own), zz.Stable := by
        intro y hy
        simp only [List.mem_cons, List.not_mem_nil, or_false] at hy
        subst hy; exact ownRow.stable _ _ _ _ _ _
      have hstart : ∀ γ, OwnR w (uz1.heap.size) [(w.heap.size, 29, #[.int .i64 key, .slice A l.length cap])] [ownRow 2 w.heap.size 52 8 L.length (flatS truV L)] (fun _ _ => false) (⟨w.heap.size + 1, 37, 3, 8, [2], fun γ => #[.int .i64 cnt, γ 2, .int .i64 mo]⟩ : OutB) (fun _ => false) γ _ := fun γ => OwnR.start hn0 hn0.1.size (Nat.le_refl _) (by intro y hy; simp only [List.mem_cons, List.not_mem_nil, or_false] at hy; subst hy <;> (simp only []; omega)) hcz rfl
      refine wp_region_free [false, false, true, false, false, false, true, false, true] (ShL [(2, fun v => ∃ (A : Option Addr) (c : Nat), v = .slice A L.length c), (6, fun v => v = .int .i64 mo)]) (fun D γ u => OwnR w (uz1.heap.size) [(w.heap.size, 29, #[.int .i64 key, .slice A l.length cap])] [ownRow 2 w.heap.size 52 8 L.length (flatS truV L)] (fun _ _ => false) (⟨w.heap.size + 1, 37, 3, 8, [2], fun γ => #[.int .i64 cnt, γ 2, .int .i64 mo]⟩ : OutB) D γ u) (by kernel_rfl) (by kernel_rfl) (fun γ => by kernel_rfl) (fun D γ γ' w ha h => h.loc hok ha) (ShL.inh _ ?inh) (fun γ => hstart γ) (fun γ hγ => ?_)
      case inh =>
        intro y hy
        simp only [List.mem_cons, List.not_mem_nil, or_false] at hy
        rcases hy with rfl | rfl
        · exact ⟨_, none, 0, rfl⟩
        · exact ⟨_, rfl⟩
      clear hstart hn0 hcz
      obtain ⟨A4, c4, g2⟩ : ∃ (A : Option Addr) (c : Nat), γ 2 = .slice A L.length c := hγ 2 rfl
      have g6 : γ 6 = .int .i64 mo := hγ 6 rfl
      have g8 : γ 8 = undef := hγ 8 rfl
      clear hz3 kc0 kf0 kc1 kf1
      apply Exists.intro
      refine ⟨fun D => ?_, ?_, ?_⟩
      · simp only [hushL, cond_true, cond_false, Nat.reduceAdd, g2, g6, g8]
        iterate 9 (first
          | go_big_quiet_skip
          | (go_big_quiet_want
             go_big_quiet_op
             first
               | go_big_quiet_on
               | (apply Exists.intro
                  refine ⟨fun u hu => ?_, ?_⟩
                  · first
                      | with_reducible rfl
                      | (obtain ⟨kc0, kf0, -⟩ := hu.1.1.1.rd; go_simp; first | done | with_reducible rfl)
                  go_big_quiet_on)))
        exact wpQuiet_nil rfl
      · simp only [freeOk, Nat.reduceAdd]
        refine ⟨fun D u hD hd hu => ?_, fun D u hD hd hu => ?_, fun D u hD hd hu => ?_, trivial⟩
        · refine steps_call ((CO.out u hu.1.1.1.1).mono ?_) rfl rfl rfl rfl (by kernel_rfl)
          rintro e w' ⟨v5, rfl, hrow, hb⟩
          obtain ⟨A5, c5, rfl, _, _⟩ := hrow.reads truV_len
          refine ⟨_, rfl, ⟨A5, c5, rfl⟩, ?_⟩
          exact hu.made hok hstab (z := ownRow 2 w.heap.size 52 8 L.length (flatS truV L)) (by simp) (by intro y hy; simp only [List.mem_cons, List.not_mem_nil, or_false] at hy; subst hy; exact .inl rfl) hD (Nat.ne_of_beq_eq_false rfl) hb (row_mono hrow hu.1.1.1.1.size) (fun g hg => row_fresh hrow g hg)
        · exact steps_call ((MC.out u hu.1.1.1.1).mono fun e w' ⟨he, hb⟩ => ⟨_, he, rfl, hu.below hok hstab hb hD _ (Nat.ne_of_beq_eq_false rfl) (by intro y hy; simp only [List.mem_cons, List.not_mem_nil, or_false] at hy; subst hy; exact ⟨Nat.ne_of_beq_eq_false rfl, Nat.ne_of_beq_eq_false rfl⟩)⟩) rfl rfl rfl rfl (by kernel_rfl)
        · obtain ⟨z, hz, hzs⟩ := hu.box
          refine steps_store hz rfl rfl (show _ = Value.agg #[.int .i64 cnt, .slice A4 L.length c4, .int .i64 mo] from rfl) (by kernel_rfl) hzs (by simp [Value.oneCell']) (fun w' hc hg => ⟨rfl, hu.stored hok hstab (by intro y hy; simp only [List.mem_cons, List.not_mem_nil, or_false] at hy; subst hy; exact ⟨Nat.ne_of_beq_eq_false rfl, Nat.ne_of_beq_eq_false rfl⟩) (by intro y hy; simp only [List.mem_cons, List.not_mem_nil, or_false] at hy; subst hy; exact hd { on := 2, ground := Ground.phase } (by simp) rfl rfl) hg ?_ _⟩)
          show CellsAt w' (w.heap.size + 1) 37 (#[.int .i64 cnt, γ 2, .int .i64 mo])
          simp only [g2]
          exact hc
      · intro D uf hD hu
        have ho2 : TrRow uf w.heap.size (γ 2) L := (hu.1.at_ (z := ownRow 2 w.heap.size 52 8 L.length (flatS truV L)) (by simp) (hD 2 (by simp) rfl)).1
        simp only [g2] at ho2
        obtain ⟨hres0, hf⟩ := hu.done (hD 8 (by simp) rfl)
        have hres : CellsAt uf (w.heap.size + 1) 37 (#[.int .i64 cnt, γ 2, .int .i64 mo]) := hres0
        simp only [g2] at hres
        clear hres0
        have d0 := hres.cell 0
        have d1 := hres.cell 1
        have d2 := hres.cell 2
        go_wp2_with fail
        exact bodyPost_ret (v := .agg #[.int .i64 cnt, .slice A4 L.length c4, .int .i64 mo]) (by simp [results, Try.results15, go_sem, d0, d1, d2]) rfl ⟨A4, c4, rfl, ho2, hf.1⟩
    · rw [trustsB_no ht] at TS
      rw [if_neg (fun h => ht h.1)]
      clear ht hr MC CO0
      go_enter Try.func15, Try.ntmps15
      go_wp2_with fail
      refine (IN.out _).mono ?_; rintro e w' ⟨rfl, rfl⟩
      go_wp2_with fail
      refine (TS.out _ K0.out.1).mono ?_; rintro e uz1 ⟨rfl, bz2⟩
      have hz3 := K0.out.below bz2
      clear bz2
      obtain ⟨kc0, kf0, kc1, kf1, -⟩ := hz3.rd
      go_wp2_with fail
      obtain ⟨w9, e9, ⟨d0, d1, d2⟩, hb9, _⟩ := seal_end (w := w) (x := .int .i64 0) (y := .slice none 0 0) (z := .int .i64 0) (hz3.at_ (p := w.heap.size + 1) (t := 37) (cs := #[.int .i64 0, .slice none 0 0, .int .i64 0]) (by simp)) hz3.1 (by omega)
      rw [e9]
      exact bodyPost_ret (v := .agg #[.int .i64 0, .slice none 0 0, .int .i64 0]) (by simp [results, Try.results15, go_sem, d0, d1, d2]) rfl ⟨none, 0, rfl, World.ownsRow_nil w9 _ _ _, hb9⟩
  · rw [decide_eq_false hr] at IN
    rw [if_neg (fun h => hr h.2)]
    clear MC CO0 TS hr
    go_enter Try.func15, Try.ntmps15
    go_wp2_with fail
    refine (IN.out _).mono ?_; rintro e w' ⟨rfl, rfl⟩
    have hk0 := K0.out
    go_wp2_with fail
    have hc := hk0.at_ (p := w.heap.size + 1) (t := 37) (cs := #[.int .i64 0, .slice none 0 0, .int .i64 0]) (by simp)
    have d0 := hc.cell 0
    have d1 := hc.cell 1
    have d2 := hc.cell 2
    exact bodyPost_ret (v := .agg #[.int .i64 0, .slice none 0 0, .int .i64 0]) (by simp [results, Try.results15, go_sem, d0, d1, d2]) rfl ⟨none, 0, rfl, World.ownsRow_nil _ _ _ _, hk0.1⟩
set_option maxRecDepth 20000 in
set_option maxHeartbeats 4000000 in
theorem implSealOk_calls (key : Int) (A : Option Addr) (l : List Int) (cap : Nat) (hcap : l.length ≤ cap) (cnt : Int) (B : Option Addr) (L : List Tru) (tc : Nat) (mac : Int) (w : World) (hn : l.length ≤ 1048576) (hA : Ints w .i64 w.heap.size A l) (hN : L.length ≤ 1048576) (hB : Trs w w.heap.size B L) (hI : TrusI L) (hc0 : I64 cnt) :
    Calls Try.prog 24 #[.agg #[.int .i64 key, .slice A l.length cap], .agg #[.int .i64 cnt, .slice B L.length tc, .int .i64 mac]] w fun e w' => e = .returned (.bool (sealB key l cnt L mac)) ∧ Below w.heap.size w w' := by
  have K0 := Lib.hid (show Kept w [(w.heap.size + 1, 37, #[.int .i64 cnt, .slice B L.length tc, .int .i64 mac]), (w.heap.size, 29, #[.int .i64 key, .slice A l.length cap])] _ from (((Kept.refl w).put1 _ _ #[.int .i64 key, .slice A l.length cap] rfl).put1 _ _ #[.int .i64 cnt, .slice B L.length tc, .int .i64 mac] (by simp)))
  have SO := Lib.hid (fun (u : World) (hb : Below w.heap.size w u) => implSealOf_calls key A l cap hcap cnt B L tc u hn ((hA.below hb (Nat.le_refl _)).more hb.size) hN ((hB.below hb (Nat.le_refl _)).more hb.size) hI hc0)
  clear hA hB hI hc0 hn hcap
  unfold sealN at SO
  unfold sealB
  by_cases h : trustsOk key l L ∧ 0 ≤ cnt ∧ cnt ≤ 10000
  · rw [if_pos h] at SO
    rw [trustsB_yes h.1, decide_eq_true h.2, Bool.true_and, Bool.true_and]
    have hl : 0 < L.length := by have h1 := h.1.2.1; have h2 := h.1.1.2.1; omega
    have hl2 : (0 : Int) < L.length := by omega
    simp only [] at SO
    generalize macOf key l cnt L = mo at SO ⊢
    clear h
    by_cases hm : mac = mo
    · have hb : (mo == mac) = true := beq_iff_eq.2 hm.symm
      rw [decide_eq_true hm]
      clear hm
      go_enter Try.func24, Try.ntmps24
      go_wp2_with fail
      refine (SO.out _ K0.out.1).mono ?_; rintro e w1 ⟨A', c', rfl, hrow, b1⟩
      have h1 := K0.out.below b1
      clear b1 hrow
      have h2 := h1.put1 w1.heap.size 37 #[.int .i64 cnt, .slice A' L.length c', .int .i64 mo] rfl
      have H2 := Lib.hid h2
      clear h1 K0
      go_upto_region 2 with fail
      obtain ⟨kc0, kf0, kc1, kf1, kc2, kf2, -⟩ := h2.rd
      clear h2
      go_wp2_with fail
      go_ret
      exact ⟨rfl, H2.out.1⟩
    · have hb : (mo == mac) = false := beq_false_of_ne (fun e => hm e.symm)
      rw [decide_eq_false hm]
      clear hm
      go_enter Try.func24, Try.ntmps24
      go_wp2_with fail
      refine (SO.out _ K0.out.1).mono ?_; rintro e w1 ⟨A', c', rfl, hrow, b1⟩
      have h1 := K0.out.below b1
      clear b1 hrow
      have h2 := h1.put1 w1.heap.size 37 #[.int .i64 cnt, .slice A' L.length c', .int .i64 mo] rfl
      have H2 := Lib.hid h2
      clear h1 K0
      go_upto_region 2 with fail
      obtain ⟨kc0, kf0, kc1, kf1, kc2, kf2, -⟩ := h2.rd
      clear h2
      go_wp2_with fail
      go_ret
      exact ⟨rfl, H2.out.1⟩
  · rw [if_neg h] at SO
    rw [show (trustsB key l L && decide (0 ≤ cnt ∧ cnt ≤ 10000) && decide (mac = macOf key l cnt L)) = false from by
      by_cases ht : trustsOk key l L
      · rw [decide_eq_false (fun h2 => h ⟨ht, h2⟩), Bool.and_false, Bool.false_and]
      · rw [trustsB_no ht, Bool.false_and, Bool.false_and]]
    simp only [] at SO
    clear h
    go_enter Try.func24, Try.ntmps24
    go_wp2_with fail
    refine (SO.out _ K0.out.1).mono ?_; rintro e w1 ⟨A', c', rfl, hrow, b1⟩
    have h1 := K0.out.below b1
    clear b1 hrow
    have h2 := h1.put1 w1.heap.size 37 #[.int .i64 0, .slice A' 0 c', .int .i64 0] rfl
    have H2 := Lib.hid h2
    clear h1 K0
    go_upto_region 2 with fail
    obtain ⟨kc0, kf0, kc1, kf1, kc2, kf2, -⟩ := h2.rd
    clear h2
    go_wp2_with fail
    go_ret
    exact ⟨rfl, H2.out.1⟩
end Go.Proofs.Ytodmponjjhokdaa.Mx
namespace Go.Proofs.Ytodmponjjhokdaa.Mx
open Go.ChangeShapes Go.WideShapes Go.ChangeAt Go.RowKit
set_option linter.unusedVariables false
section
variable {α : Type} [Inhabited α]
def laidS (enc : α → List Value) (z : List Value) (n : Nat) (L : List α) (k i : Nat) : Value := if i < k * n then ((enc (L.getD (i / n) default))[i % n]?).getD undef else (z[i % n]?).getD undef
theorem laidS_zero (enc : α → List Value) (z : List Value) (n : Nat) (L : List α) (i : Nat) : laidS enc z n L 0 i = (z[i % n]?).getD undef := by unfold laidS; rw [if_neg (by omega)]
theorem laidS_at {enc : α → List Value} {z : List Value} {n : Nat} (L : List α) {k i j : Nat} (hi : i < k) (hj : j < n) : laidS enc z n L k (i * n + j) = ((enc (L.getD i default))[j]?).getD undef := by
  have h1 : i * n + j < k * n := Nat.lt_of_lt_of_le (by omega : i * n + j < i * n + n) (by have := Nat.mul_le_mul_right n hi; rw [Nat.succ_mul] at this; exact this)
  have h2 : (i * n + j) / n = i := by rw [Nat.mul_comm, Nat.mul_add_div (by omega), Nat.div_eq_of_lt hj]; rfl
  have h3 : (i * n + j) % n = j := by rw [Nat.mul_comm, Nat.mul_add_mod, Nat.mod_eq_of_lt hj]
  unfold laidS
  rw [if_pos h1, h2, h3]
theorem laidS_off {enc : α → List Value} {z : List Value} {n : Nat} (L : List α) {k i : Nat} (h : ∀ j, j < n → i ≠ k * n + j) : laidS enc z n L (k + 1) i = laidS enc z n L k i := by
  unfold laidS
  by_cases h1 : i < k * n
  · rw [if_pos h1, if_pos (by rw [Nat.succ_mul]; omega)]
  · rw [if_neg h1, if_neg]
    rw [Nat.succ_mul]
    intro h2
    exact h (i - k * n) (by omega) (by omega)
end
theorem rowS_below {w w' : World} {B b t n : Nat} {f : Nat → Value} (h : w.rowIs b t n f) (hb : Below B w w') (hlt : b < B) : w'.rowIs b t n f := by
  obtain ⟨c, h1, h2, h3⟩ := h
  exact ⟨c, (hb.block b hlt).trans h1, h2, h3⟩
theorem szTrustS_calls (A : Option Addr) (n cap : Nat) (left : Int) (w : World) (h0 : 0 ≤ left) (h1 : left ≤ 1048576) (hn : n ≤ maxLen) :
    Calls Try.prog 7 #[.slice A n cap, .int .i64 left] w fun e w' => e = .returned (.int .i64 (if (n : Int) ≤ left then left - n else -1)) ∧ w = w' := by
  unfold maxLen at hn
  by_cases h : (n : Int) ≤ left
  · rw [if_pos h]
    have h2 : ¬ left - n < 0 := by omega
    go_enter Try.func7, Try.ntmps7
    go_wp2
    go_ret
    exact ⟨rfl, rfl⟩
  · rw [if_neg h]
    have h2 : left - n < 0 := by omega
    go_enter Try.func7, Try.ntmps7
    go_wp2
    go_ret
    exact ⟨rfl, rfl⟩
set_option maxHeartbeats 4000000 in
theorem eqTrustS_same (A C : Option Addr) (L : List Tru) (cap cap' : Nat) (w : World) (hn : L.length ≤ maxLen) (hA : Sls truV 8 w w.heap.size A L) (hC : Sls truV 8 w w.heap.size C L) :
    Calls Try.prog 13 #[.slice A L.length cap, .slice C L.length cap'] w fun e w' => e = .returned (.bool true) ∧ Below w.heap.size w w' := by
  have hm := hn
  unfold maxLen at hm
  have HA := Lib.hid hA
  have HC := Lib.hid hC
  clear hA hC hn
  go_enter Try.func13, Try.ntmps13
  go_wp2_with fail
  go_loopw [5] (fun i wr => ∃ k : Nat, k ≤ L.length ∧ i = .int .i64 k ∧ Below w.heap.size w wr) (fun i _ => L.length - (intOf i).toNat)
  case atStart => exact ⟨0, Nat.zero_le _, rfl, Below.refl _ _⟩
  case round =>
    obtain ⟨k, hk, rfl, hbel⟩ := hrel
    have HB := Lib.hid hbel
    clear hbel
    by_cases hlt : k < L.length
    · obtain ⟨b, off, rfl, hb, c0, c1, c2, c3, c4, c5, c6, c7⟩ := Trs.at_ (HA.out.below HB.out.drew (Nat.le_refl _)) hlt
      obtain ⟨b', off', rfl, hb', d0, d1, d2, d3, d4, d5, d6, d7⟩ := Trs.at_ (HC.out.below HB.out.drew (Nat.le_refl _)) hlt
      have hlt' : (k : Int) < L.length := by omega
      have hk0 : (0 : Int) ≤ k := by omega
      generalize L.getD k default = T at c0 c1 c2 c3 c4 c5 c6 c7 d0 d1 d2 d3 d4 d5 d6 d7
      go_wp2_with fail
      go_region_with (go_at_call 35; refine (eqTrust_same T.clock T.epoch T.cursor T.read T.written T.nread T.nwritten T.failed _).mono ?_; rintro e wx ⟨rfl, bx⟩)
      all_goals
        have BX := Lib.hid (HB.out.drew.trans (bx.mono HB.out.drew.size))
        clear bx c0 c1 c2 c3 c4 c5 c6 c7 d0 d1 d2 d3 d4 d5 d6 d7
        go_wp2_with fail
        go_roundw
        case rel => exact ⟨k + 1, by omega, by go_num, BX.out⟩
        case measure => simp [intOf]; omega
    · go_wp2_with fail
      go_ret
      exact ⟨rfl, HB.out⟩
theorem laidTrustS_next (L : List Tru) {k : Nat} {T : Tru} (h : L.getD k default = T) (i : Nat) :
    laidS truV [.int .i64 0, .int .i64 0, .int .i64 0, .int .i64 0, .int .i64 0, .int .i64 0, .int .i64 0, .bool false] 8 L (k + 1) i = if i = k * 8 + 7 then .bool T.failed else if i = k * 8 + 6 then .int .i64 T.nwritten else if i = k * 8 + 5 then .int .i64 T.nread else if i = k * 8 + 4 then .int .i64 T.written else if i = k * 8 + 3 then .int .i64 T.read else if i = k * 8 + 2 then .int .i64 T.cursor else if i = k * 8 + 1 then .int .i64 T.epoch else if i = k * 8 then .int .i64 T.clock else laidS truV [.int .i64 0, .int .i64 0, .int .i64 0, .int .i64 0, .int .i64 0, .int .i64 0, .int .i64 0, .bool false] 8 L k i := by
  by_cases h7 : i = k * 8 + 7
  · subst h7; rw [if_pos rfl, laidS_at L (by omega) (by omega), h]; rfl
  · rw [if_neg h7]
    by_cases h6 : i = k * 8 + 6
    · subst h6; rw [if_pos rfl, laidS_at L (by omega) (by omega), h]; rfl
    · rw [if_neg h6]
      by_cases h5 : i = k * 8 + 5
      · subst h5; rw [if_pos rfl, laidS_at L (by omega) (by omega), h]; rfl
      · rw [if_neg h5]
        by_cases h4 : i = k * 8 + 4
        · subst h4; rw [if_pos rfl, laidS_at L (by omega) (by omega), h]; rfl
        · rw [if_neg h4]
          by_cases h3 : i = k * 8 + 3
          · subst h3; rw [if_pos rfl, laidS_at L (by omega) (by omega), h]; rfl
          · rw [if_neg h3]
            by_cases h2 : i = k * 8 + 2
            · subst h2; rw [if_pos rfl, laidS_at L (by omega) (by omega), h]; rfl
            · rw [if_neg h2]
              by_cases h1 : i = k * 8 + 1
              · subst h1; rw [if_pos rfl, laidS_at L (by omega) (by omega), h]; rfl
              · rw [if_neg h1]
                by_cases h0 : i = k * 8
                · subst h0; rw [if_pos rfl, show k * 8 = k * 8 + 0 from rfl, laidS_at L (by omega) (by omega), h]; rfl
                · rw [if_neg h0]
                  exact laidS_off L (fun j hj e => by omega)
theorem made_TrustS (w : World) (n : Nat) : (w.alloc (.cells (madeCells (Value.agg #[.int .i64 0, .int .i64 0, .int .i64 0, .int .i64 0, .int .i64 0, .int .i64 0, .int .i64 0, .bool false]).cells (n * 8)) 52)).rowIs w.heap.size 52 (n * 8) (fun i => (([.int .i64 0, .int .i64 0, .int .i64 0, .int .i64 0, .int .i64 0, .int .i64 0, .int .i64 0, .bool false] : List Value)[i % 8]?).getD undef) := by
  refine ⟨_, CellsAt.new w _ _, size_madeCells _ _, fun i hi => ?_⟩
  have hz : (Value.agg #[.int .i64 0, .int .i64 0, .int .i64 0, .int .i64 0, .int .i64 0, .int .i64 0, .int .i64 0, .bool false]).cells = #[.int .i64 0, .int .i64 0, .int .i64 0, .int .i64 0, .int .i64 0, .int .i64 0, .int .i64 0, .bool false] := rfl
  have h3 : i % 8 = 0 ∨ i % 8 = 1 ∨ i % 8 = 2 ∨ i % 8 = 3 ∨ i % 8 = 4 ∨ i % 8 = 5 ∨ i % 8 = 6 ∨ i % 8 = 7 := by omega
  simp [madeCells, hz, hi]
  rcases h3 with h | h | h | h | h | h | h | h <;> simp [h]
theorem make_TrustS (n : Nat) (hn : n ≤ 1048576) (w : World) :
    (Instr.makeSlice 31 (.int .i64 (n : Int)) (.int .i64 (n : Int))).run Try.prog w = .ok (.slice (some ⟨w.heap.size, 0, none⟩) n n) (w.alloc (.cells (madeCells (Value.agg #[.int .i64 0, .int .i64 0, .int .i64 0, .int .i64 0, .int .i64 0, .int .i64 0, .int .i64 0, .bool false]).cells (n * 8)) 52)) := by
  obtain ⟨i, hi, hzz⟩ := Option.map_eq_some_iff.1 info_tru
  simp only [Prod.mk.injEq] at hzz
  obtain ⟨hz, hs, hb⟩ := hzz
  have hr := run_make (P := Try.prog) w 31 52 i _ Try.underlying31 hi hz .i64 .i64 n n (by omega) (Int.le_refl _) (by rw [hb]; omega) (by omega)
  simp only [Int.toNat_natCast, hs] at hr
  exact hr
theorem sls_TrustS {w : World} {g ty : Nat} {L : List Tru} (h : w.rowIs g ty (L.length * 8) (laidS truV [.int .i64 0, .int .i64 0, .int .i64 0, .int .i64 0, .int .i64 0, .int .i64 0, .int .i64 0, .bool false] 8 L L.length)) : Sls truV 8 w (g + 1) (some ⟨g, 0, none⟩) L := by
  intro i hi
  refine ⟨g, 0, rfl, by omega, fun j hj => ?_⟩
  have hlt : i * 8 + j < L.length * 8 := by omega
  rw [Nat.zero_add, h.cell hlt, laidS_at L hi hj]
  obtain ⟨v, hv⟩ : ∃ v, (truV (L.getD i default))[j]? = some v := ⟨_, List.getElem?_eq_getElem (show j < (truV (L.getD i default)).length by rw [truV_len]; exact hj)⟩
  rw [hv]; rfl
set_option maxHeartbeats 4000000 in
theorem toTrustS_calls (A : Option Addr) (L : List Tru) (cap : Nat) (w : World) (hn : L.length ≤ 1048576) (hA : Sls truV 8 w w.heap.size A L) :
    Calls Try.prog 10 #[.slice A L.length cap] w fun e w' => e = .returned (.slice (some ⟨w.heap.size, 0, none⟩) L.length L.length) ∧ Below w.heap.size w w' ∧ w.heap.size < w'.heap.size ∧ w'.rowIs w.heap.size 52 (L.length * 8) (laidS truV [.int .i64 0, .int .i64 0, .int .i64 0, .int .i64 0, .int .i64 0, .int .i64 0, .int .i64 0, .bool false] 8 L L.length) := by
  have hmk := make_TrustS L.length hn
  have HA := Lib.hid hA
  clear hA
  go_enter Try.func10, Try.ntmps10
  go_wp2_with fail
  clear hmk
  go_loopw [4] (fun i wr => ∃ k : Nat, k ≤ L.length ∧ i = .int .i64 k ∧ Below w.heap.size w wr ∧ wr.rowIs w.heap.size 52 (L.length * 8) (laidS truV [.int .i64 0, .int .i64 0, .int .i64 0, .int .i64 0, .int .i64 0, .int .i64 0, .int .i64 0, .bool false] 8 L k)) (fun i _ => L.length - (intOf i).toNat)
  case atStart =>
    exact ⟨0, Nat.zero_le _, rfl, (Below.refl _ _).alloc (Nat.le_refl _) _, (made_TrustS w L.length).congr (fun i hi => (laidS_zero _ _ _ L i).symm)⟩
  case round =>
    obtain ⟨k, hk, rfl, hbel, hrow⟩ := hrel
    have HB := Lib.hid hbel
    have HR := Lib.hid hrow
    clear hbel hrow
    have hg : w.heap.size < wr.heap.size := by
      obtain ⟨c, h1, _⟩ := HR.out
      exact (Array.getElem?_eq_some_iff.1 h1).1
    by_cases hlt : k < L.length
    · obtain ⟨b, off, rfl, hb, c0, c1, c2, c3, c4, c5, c6, c7⟩ := Trs.at_ (HA.out.below HB.out (Nat.le_refl _)) hlt
      have hlt' : (k : Int) < L.length := by omega
      have hk0 : (0 : Int) ≤ k := by omega
      generalize hT : L.getD k default = T at c0 c1 c2 c3 c4 c5 c6 c7
      have HT := Lib.hid (laidTrustS_next L hT)
      clear hT
      go_wp2_with fail
      refine (toTrust_calls T.clock T.epoch T.cursor T.read T.written T.nread T.nwritten T.failed _).mono ?_; rintro e w1 ⟨rfl, b1⟩
      have BX := Lib.hid (HB.out.trans (b1.mono HB.out.size))
      have hrow := rowS_below HR.out b1 hg
      have HR1 := Lib.hid hrow
      have e0 := hrow.cell (i := k * 8) (by omega)
      have f0 := hrow.frozen (k * 8)
      have e1 := hrow.cell (i := k * 8 + 1) (by omega)
      have f1 := hrow.frozen (k * 8 + 1)
      have e2 := hrow.cell (i := k * 8 + 2) (by omega)
      have f2 := hrow.frozen (k * 8 + 2)
      have e3 := hrow.cell (i := k * 8 + 3) (by omega)
      have f3 := hrow.frozen (k * 8 + 3)
      have e4 := hrow.cell (i := k * 8 + 4) (by omega)
      have f4 := hrow.frozen (k * 8 + 4)
      have e5 := hrow.cell (i := k * 8 + 5) (by omega)
      have f5 := hrow.frozen (k * 8 + 5)
      have e6 := hrow.cell (i := k * 8 + 6) (by omega)
      have f6 := hrow.frozen (k * 8 + 6)
      have e7 := hrow.cell (i := k * 8 + 7) (by omega)
      have f7 := hrow.frozen (k * 8 + 7)
      clear b1 hrow c0 c1 c2 c3 c4 c5 c6 c7
      go_wp2_with fail
      go_roundw
      case rel =>
        refine ⟨k + 1, by omega, by go_num, ((((((((BX.out.setCell (Nat.le_refl _) _).setCell (Nat.le_refl _) _).setCell (Nat.le_refl _) _).setCell (Nat.le_refl _) _).setCell (Nat.le_refl _) _).setCell (Nat.le_refl _) _).setCell (Nat.le_refl _) _).setCell (Nat.le_refl _) _), ?_⟩
        exact (((((((((HR1.out.set (k * 8) (.int .i64 T.clock)).set (k * 8 + 1) (.int .i64 T.epoch)).set (k * 8 + 2) (.int .i64 T.cursor)).set (k * 8 + 3) (.int .i64 T.read)).set (k * 8 + 4) (.int .i64 T.written)).set (k * 8 + 5) (.int .i64 T.nread)).set (k * 8 + 6) (.int .i64 T.nwritten)).set (k * 8 + 7) (.bool T.failed))).congr (fun i hi => (HT.out i).symm)
      case measure => simp [intOf]; omega
    · have hk' : k = L.length := by omega
      subst hk'
      go_wp2_with fail
      go_ret
      exact ⟨rfl, HB.out, hg, HR.out⟩
end Go.Proofs.Ytodmponjjhokdaa.Mx

import Derived.Test.YtgaecedhkbneaaaGreatG07
import Derived.Test.YtgaecedhkbneaaaGreatG06
import Derived.Test.YtgaecedhkbneaaaGreatG04
import Derived.Deep.RegionHeld3
import Derived.Test.YtgaecedhkbneaaaGreatG05
import Derived.StillTail
import Derived.Deep.MidRow
namespace Go.Proofs.YtgaecedhkbneaaaGreat.Mx
open Go.ChangeShapes Go.WideShapes Go.ChangeAt Go.RowKit
set_option linter.unusedVariables false
def blkOf (v : Value) : List Nat := match v with | .slice (some a) _ _ => [a.block] | _ => []
def agg1 (v : Value) : Value := match v with | .agg cs => cs.getD 1 undef | _ => undef
theorem row_stable {u u' : World} {base t size n : Nat} {v : Value} {xs : List Value} (h : u.ownsRow base t size v n xs) (hf : ∀ g ∈ blkOf v, u'.heap[g]? = u.heap[g]?) : u'.ownsRow base t size v n xs := by
  refine ⟨h.1, ?_⟩
  rcases h.2 with h0 | ⟨g, cap, cur, e, hb, hg, r⟩
  · exact .inl h0
  · subst e
    exact .inr ⟨g, cap, cur, rfl, hb, by rw [hf g (by simp [blkOf])]; exact hg, r⟩
theorem row_fresh {u w' : World} {t size n : Nat} {v : Value} {xs : List Value} (h : w'.ownsRow u.heap.size t size v n xs) : ∀ g ∈ blkOf v, u.heap.size ≤ g ∧ g < w'.heap.size := by
  intro g hg
  unfold blkOf at hg
  split at hg
  · rename_i a _ _
    simp only [List.mem_singleton] at hg
    subst hg
    exact World.ownsRow.lt h a.block rfl
  · cases hg
noncomputable def sealN (key : Int) (l : List Int) (cnt : Int) (L : List Tru) : Int × List Tru × Int :=
  open Classical in if trustsOk key l L ∧ (0 ≤ cnt ∧ cnt ≤ 10000) then (cnt, L, macOf key l cnt L) else (0, [], 0)
set_option maxRecDepth 20000 in
set_option maxHeartbeats 4000000 in
theorem specSealOf_calls (key : Int) (A : Option Addr) (l : List Int) (cap : Nat) (cnt : Int) (B : Option Addr) (L : List Tru) (tc : Nat) (w : World) (hn : l.length ≤ maxLen) (hA : Ints w .i64 w.heap.size A l) (hN : L.length ≤ 1048576) (hB : Trs w w.heap.size B L) (hI : TrusI L) (hc0 : I64 cnt) :
    Calls Tryz.prog 17 #[.agg (pA key A l.length cap), .int .i64 cnt, .slice B L.length tc] w (NewSe w (sealN key l cnt L).1 (sealN key l cnt L).2.1 (sealN key l cnt L).2.2) := by
  have K0 := Lib.hid (show Kept w [(w.heap.size + 1, 47, #[.int .i64 0, .slice none 0 0, .int .i64 0]), (w.heap.size, 26, (pA key A l.length cap))] _ from (((Kept.refl w).put1 _ _ (pA key A l.length cap) rfl).put1 _ _ #[.int .i64 0, .slice none 0 0, .int .i64 0] (by simp)))
  have TS := Lib.hid (fun (u : World) (hb : Below w.heap.size w u) => l10Trusts_calls key A B l cap L tc u hn ((hA.below hb (Nat.le_refl _)).more hb.size) (by unfold maxLen; omega) ((hB.below hb (Nat.le_refl _)).more hb.size))
  have MC := Lib.hid (fun (u : World) (hb : Below w.heap.size w u) => specMac_calls key cnt A B l cap L tc u hn ((hA.below hb (Nat.le_refl _)).more hb.size) hN ((hB.below hb (Nat.le_refl _)).more hb.size) hI hc0)
  have IN := Lib.hid (fun (u : World) => l1In_b cnt 0 10000 _ u rfl)
  have CO := Lib.hid (fun (u : World) (hb : Below w.heap.size w u) => l10Copy_calls B L tc u hN ((hB.below hb (Nat.le_refl _)).more hb.size))
  clear hA hB hI hc0 hn
  unfold sealN
  by_cases ht : trustsOk key l L
  · rw [trustsB_yes ht] at TS
    by_cases hr : 0 ≤ cnt ∧ cnt ≤ 10000
    · rw [decide_eq_true hr] at IN
      rw [if_pos ⟨ht, hr⟩]
      simp only []
      generalize macOf key l cnt L = mo at MC ⊢
      clear ht hr
      go_enter Tryz.func17, Tryz.ntmps17
      go_wp2_with fail
      refine (TS.out _ K0.out.1).mono ?_; rintro e uz1 ⟨rfl, bz2⟩
      have hz3 := K0.out.below bz2
      clear bz2
      obtain ⟨kc0, kf0, kc1, kf1, -⟩ := hz3.rd
      go_wp2_with fail
      refine (IN.out _).mono ?_; rintro e w' ⟨rfl, rfl⟩
      go_upto_region 3 with fail
      have lm0 : w.heap.size < uz1.heap.size := hz3.lt (x := (w.heap.size, 26, (pA key A l.length cap))) (by simp)
      have lm1 : w.heap.size + 1 < uz1.heap.size := hz3.lt (x := (w.heap.size + 1, 47, #[.int .i64 0, .slice none 0 0, .int .i64 0])) (by simp)
      have hn0 : Kept w [(w.heap.size, 26, (pA key A l.length cap))] _ := hz3.sub (by intro y hy; simp at hy ⊢; subst hy; simp)
      have hcz := hz3.at_ (p := w.heap.size + 1) (t := 47) (cs := #[.int .i64 0, .slice none 0 0, .int .i64 0]) (by simp)
      have hok : OutB.Ok (⟨w.heap.size + 1, 47, 3, 8, [2], fun γ => #[.int .i64 cnt, γ 2, .int .i64 mo]⟩ : OutB) w (uz1.heap.size) [(w.heap.size, 26, (pA key A l.length cap))] := ⟨by simp only [] <;> omega, by simp only [] <;> omega, by intro y hy; simp only [List.mem_cons, List.not_mem_nil, or_false] at hy; subst hy <;> (simp only []; omega), fun γ γ' ha => by simp only []; rw [ha 2 (by simp)], fun γ => rfl, by simp⟩
      have hstab : ∀ zz ∈ ([ownRow 2 w.heap.size 43 8 L.length (flatS truV L)] : List Own), zz.Stable := by
        intro y hy
        simp only [List.mem_cons, List.not_mem_nil, or_false] at hy
        subst hy; exact ownRow.stable _ _ _ _ _ _
      have hstart : ∀ γ, OwnR w (uz1.heap.size) [(w.heap.size, 26, (pA key A l.length cap))] [ownRow 2 w.heap.size 43 8 L.length (flatS truV L)] (fun _ _ => false) (⟨w.heap.size + 1, 47, 3, 8, [2], fun γ => #[.int .i64 cnt, γ 2, .int .i64 mo]⟩ : OutB) (fun _ => false) γ _ := fun γ => OwnR.start hn0 hn0.1.size (Nat.le_refl _) (by intro y hy; simp only [List.mem_cons, List.not_mem_nil, or_false] at hy; subst hy <;> (simp only []; omega)) hcz rfl
      refine wp_region_free [false, false, true, false, false, false, true, false, true] (ShL [(2, fun v => ∃ (A : Option Addr) (c : Nat), v = .slice A L.length c), (6, fun v => v = .int .i64 mo)]) (fun D γ u => OwnR w (uz1.heap.size) [(w.heap.size, 26, (pA key A l.length cap))] [ownRow 2 w.heap.size 43 8 L.length (flatS truV L)] (fun _ _ => false) (⟨w.heap.size + 1, 47, 3, 8, [2], fun γ => #[.int .i64 cnt, γ 2, .int .i64 mo]⟩ : OutB) D γ u) (by kernel_rfl) (by kernel_rfl) (fun γ => by kernel_rfl) (fun D γ γ' w ha h => h.loc hok ha) (ShL.inh _ ?inh) (fun γ => hstart γ) (fun γ hγ => ?_)
      case inh =>
        intro y hy
        simp only [List.mem_cons, List.not_mem_nil, or_false] at hy
        rcases hy with rfl | rfl
        · exact ⟨_, none, 0, rfl⟩
        · exact ⟨_, rfl⟩
      clear hstart hn0 hcz
      obtain ⟨A4, c4, g2⟩ : ∃ (A : Option Addr) (c : Nat), γ 2 = .slice A L.length c := hγ 2 rfl
      have g6 : γ 6 = .int .i64 mo := hγ 6 rfl
      have g8 : γ 8 = undef := hγ 8 rfl
      clear hz3 kc0 kf0 kc1 kf1
      apply Exists.intro
      refine ⟨fun D => ?_, ?_, ?_⟩
      · simp only [hushL, cond_true, cond_false, Nat.reduceAdd, g2, g6, g8]
        iterate 9 (first
          | go_big_quiet_skip
          | (go_big_quiet_want
             go_big_quiet_op
             first
               | go_big_quiet_on
               | (apply Exists.intro
                  refine ⟨fun u hu => ?_, ?_⟩
                  · first
                      | with_reducible rfl
                      | (obtain ⟨kc0, kf0, -⟩ := hu.1.1.1.rd; go_simp; first | done | with_reducible rfl)
                  go_big_quiet_on)))
        exact wpQuiet_nil rfl
      · simp only [freeOk, Nat.reduceAdd]
        refine ⟨fun D u hD hd hu => ?_, fun D u hD hd hu => ?_, fun D u hD hd hu => ?_, trivial⟩
        · refine steps_call ((CO.out u hu.1.1.1.1).mono ?_) rfl rfl rfl rfl (by kernel_rfl)
          rintro e w' ⟨v5, rfl, hrow, hb⟩
          obtain ⟨A5, c5, rfl, _, _⟩ := hrow.reads truV_len
          refine ⟨_, rfl, ⟨A5, c5, rfl⟩, ?_⟩
          exact hu.made hok hstab (z := ownRow 2 w.heap.size 43 8 L.length (flatS truV L)) (by simp) (by intro y hy; simp only [List.mem_cons, List.not_mem_nil, or_false] at hy; subst hy; exact .inl rfl) hD (Nat.ne_of_beq_eq_false rfl) hb (row_mono hrow hu.1.1.1.1.size) (fun g hg => row_fresh hrow g hg)
        · exact steps_call ((MC.out u hu.1.1.1.1).mono fun e w' ⟨he, hb⟩ => ⟨_, he, rfl, hu.below hok hstab hb hD _ (Nat.ne_of_beq_eq_false rfl) (by intro y hy; simp only [List.mem_cons, List.not_mem_nil, or_false] at hy; subst hy; exact ⟨Nat.ne_of_beq_eq_false rfl, Nat.ne_of_beq_eq_false rfl⟩)⟩) rfl rfl rfl rfl (by kernel_rfl)
        · obtain ⟨z, hz, hzs⟩ := hu.box
          refine steps_store hz rfl rfl (show _ = Value.agg #[.int .i64 cnt, .slice A4 L.length c4, .int .i64 mo] from rfl) (by kernel_rfl) hzs (by simp [Value.oneCell']) (fun w' hc hg => ⟨rfl, hu.stored hok hstab (by intro y hy; simp only [List.mem_cons, List.not_mem_nil, or_false] at hy; subst hy; exact ⟨Nat.ne_of_beq_eq_false rfl, Nat.ne_of_beq_eq_false rfl⟩) (by intro y hy; simp only [List.mem_cons, List.not_mem_nil, or_false] at hy; subst hy; exact hd { on := 2, ground := Ground.phase } (by simp) rfl rfl) hg ?_ _⟩)
          show CellsAt w' (w.heap.size + 1) 47 (#[.int .i64 cnt, γ 2, .int .i64 mo])
          simp only [g2]
          exact hc
      · intro D uf hD hu
        have ho2 : TrRow uf w.heap.size (γ 2) L := (hu.1.at_ (z := ownRow 2 w.heap.size 43 8 L.length (flatS truV L)) (by simp) (hD 2 (by simp) rfl)).1
        simp only [g2] at ho2
        obtain ⟨hres0, hf⟩ := hu.done (hD 8 (by simp) rfl)
        have hres : CellsAt uf (w.heap.size + 1) 47 (#[.int .i64 cnt, γ 2, .int .i64 mo]) := hres0
        simp only [g2] at hres
        clear hres0
        have d0 := hres.cell 0
        have d1 := hres.cell 1
        have d2 := hres.cell 2
        go_wp2_with fail
        exact bodyPost_ret (v := .agg #[.int .i64 cnt, .slice A4 L.length c4, .int .i64 mo]) (by simp [results, Tryz.results17, go_sem, d0, d1, d2]) rfl ⟨A4, c4, rfl, ho2, hf.1⟩
    · rw [decide_eq_false hr] at IN
      rw [if_neg (fun h => hr h.2)]
      clear ht hr MC CO
      go_enter Tryz.func17, Tryz.ntmps17
      go_wp2_with fail
      refine (TS.out _ K0.out.1).mono ?_; rintro e uz1 ⟨rfl, bz2⟩
      have hz3 := K0.out.below bz2
      clear bz2
      obtain ⟨kc0, kf0, kc1, kf1, -⟩ := hz3.rd
      go_wp2_with fail
      refine (IN.out _).mono ?_; rintro e w' ⟨rfl, rfl⟩
      go_wp2_with fail
      obtain ⟨w9, e9, ⟨d0, d1, d2⟩, hb9, _⟩ := seal_end (w := w) (x := .int .i64 0) (y := .slice none 0 0) (z := .int .i64 0) (hz3.at_ (p := w.heap.size + 1) (t := 47) (cs := #[.int .i64 0, .slice none 0 0, .int .i64 0]) (by simp)) hz3.1 (by omega)
      rw [e9]
      exact bodyPost_ret (v := .agg #[.int .i64 0, .slice none 0 0, .int .i64 0]) (by simp [results, Tryz.results17, go_sem, d0, d1, d2]) rfl ⟨none, 0, rfl, World.ownsRow_nil w9 _ _ _, hb9⟩
  · rw [trustsB_no ht] at TS
    rw [if_neg (fun h => ht h.1)]
    clear ht MC CO IN
    go_enter Tryz.func17, Tryz.ntmps17
    go_wp2_with fail
    refine (TS.out _ K0.out.1).mono ?_; rintro e uz1 ⟨rfl, bz2⟩
    have hz3 := K0.out.below bz2
    clear bz2
    obtain ⟨kc0, kf0, kc1, kf1, -⟩ := hz3.rd
    go_wp2_with fail
    obtain ⟨w9, e9, ⟨d0, d1, d2⟩, hb9, _⟩ := seal_end (w := w) (x := .int .i64 0) (y := .slice none 0 0) (z := .int .i64 0) (hz3.at_ (p := w.heap.size + 1) (t := 47) (cs := #[.int .i64 0, .slice none 0 0, .int .i64 0]) (by simp)) hz3.1 (by omega)
    rw [e9]
    exact bodyPost_ret (v := .agg #[.int .i64 0, .slice none 0 0, .int .i64 0]) (by simp [results, Tryz.results17, go_sem, d0, d1, d2]) rfl ⟨none, 0, rfl, World.ownsRow_nil w9 _ _ _, hb9⟩
structure VolN where
  key : Int
  counts : List Int
  trusts : List Tru
  cells : List Ce
  s0 : SlN
  s1 : SlN
  count : Int
abbrev vX (x : VolN) (A : Option Addr) (a : Nat) (B : Option Addr) (b : Nat) (C : Option Addr) (c p o s : Nat) : Array Value := #[.int .i64 x.key, .slice A x.counts.length a, .slice B x.trusts.length b, .slice C x.cells.length c, .slice (some ⟨p, o, none⟩) 2 s, .int .i64 x.count]
def VolO (u : World) (base : Nat) (x : VolN) (v : Value) : Prop :=
  ∃ A c B d C e g A0 c0 C0 d0 A1 c1 C1 d1, v = .agg (vX x A c B d C e g 0 2) ∧
    IRow u base (.slice A x.counts.length c) x.counts ∧ TrRow u base (.slice B x.trusts.length d) x.trusts ∧ ClRow u base (.slice C x.cells.length e) x.cells ∧ base ≤ g ∧
    CellsAt u g 49 #[.int .i64 x.s0.count, .slice A0 x.s0.trusts.length c0, .int .i64 x.s0.mac, .slice C0 x.s0.cells.length d0, .int .i64 x.s1.count, .slice A1 x.s1.trusts.length c1, .int .i64 x.s1.mac, .slice C1 x.s1.cells.length d1] ∧
    TrRow u base (.slice A0 x.s0.trusts.length c0) x.s0.trusts ∧ ClRow u base (.slice C0 x.s0.cells.length d0) x.s0.cells ∧ TrRow u base (.slice A1 x.s1.trusts.length c1) x.s1.trusts ∧ ClRow u base (.slice C1 x.s1.cells.length d1) x.s1.cells ∧
    [blkOf (.slice A x.counts.length c), blkOf (.slice B x.trusts.length d), blkOf (.slice C x.cells.length e), [g], blkOf (.slice A0 x.s0.trusts.length c0), blkOf (.slice C0 x.s0.cells.length d0), blkOf (.slice A1 x.s1.trusts.length c1), blkOf (.slice C1 x.s1.cells.length d1)].Pairwise fun a b => ∀ y ∈ a, y ∉ b
def NewVol (b : World) (x : VolN) (e : Ending) (w' : World) : Prop := ∃ v, e = .returned v ∧ VolO w' b.heap.size x v ∧ Below b.heap.size b w'
def VolN.Short (x : VolN) : Prop := x.counts.length ≤ 1048576 ∧ x.trusts.length ≤ 1048576 ∧ x.cells.length ≤ 1048576 ∧ x.s0.trusts.length ≤ 1048576 ∧ x.s0.cells.length ≤ 1048576 ∧ x.s1.trusts.length ≤ 1048576 ∧ x.s1.cells.length ≤ 1048576
theorem info_slot : (Tryz.prog.info? 49).map (fun i => (i.zero, i.size, i.bytes)) = some (some (.agg #[.int .i64 0, .slice none 0 0, .int .i64 0, .slice none 0 0]), 4, 64) := by kernel_rfl
def VolR (w : World) (Bd : Nat) (x : VolN) (v : Value) : Prop :=
  ∃ A c B d C e b off sc, v = .agg (vX x A c B d C e b off sc) ∧
    Ints w .i64 Bd A x.counts ∧ Trs w Bd B x.trusts ∧ Cls w Bd C x.cells ∧ b < Bd ∧ SlotAt w Bd b off x.s0 ∧ SlotAt w Bd b (off + 4) x.s1 ∧ x.counts.length ≤ c
theorem row_at {u : World} {base : Nat} {v : Value} {t size n : Nat} {xs : List Value} (h : u.ownsRow base t size v n xs) : ∀ g ∈ blkOf v, base ≤ g ∧ g < u.heap.size := by
  intro g hg
  unfold blkOf at hg
  split at hg
  · rename_i a _ _
    simp only [List.mem_singleton] at hg
    subst hg
    exact World.ownsRow.lt h a.block rfl
  · cases hg
theorem row_keep {u u' : World} {base p : Nat} {v : Value} {t size n : Nat} {xs : List Value} (h : u.ownsRow base t size v n xs) (hg : u.grownBy u' (some p)) (hp : p ∉ blkOf v) : u'.ownsRow base t size v n xs :=
  row_stable h fun g hgm => hg.block g (row_at h g hgm).2 (by intro e; injection e with e; subst e; exact hp hgm)
theorem VolO.reads {u : World} {base : Nat} {x : VolN} {v : Value} (h : VolO u base x v) : VolR u u.heap.size x v := by
  obtain ⟨A, c, B, d, C, e, g, A0, c0, C0, d0, A1, c1, C1, d1, h0, h1, h2, h3, h4, h5, h6, h7, h8, h9, h10⟩ := h
  obtain ⟨A', c', e1, i1, i2⟩ := h1.form
  obtain ⟨B', d', e2, i3, i4⟩ := h2.reads truV_len
  obtain ⟨C', f', e3, i5, i6⟩ := h3.reads ceV_len
  obtain ⟨A0', c0', e4, i7, _⟩ := h6.reads truV_len
  obtain ⟨C0', d0', e5, i8, _⟩ := h7.reads ceV_len
  obtain ⟨A1', c1', e6, i9, _⟩ := h8.reads truV_len
  obtain ⟨C1', d1', e7, i10, _⟩ := h9.reads ceV_len
  simp only [Value.slice.injEq, true_and] at e1 e2 e3 e4 e5 e6 e7
  obtain ⟨rfl, rfl⟩ := e1
  obtain ⟨rfl, rfl⟩ := e2
  obtain ⟨rfl, rfl⟩ := e3
  obtain ⟨rfl, rfl⟩ := e4
  obtain ⟨rfl, rfl⟩ := e5
  obtain ⟨rfl, rfl⟩ := e6
  obtain ⟨rfl, rfl⟩ := e7
  refine ⟨A, c, B, d, C, e, g, 0, 2, h0, i1, i3, i5, h5.lt, ⟨A0, c0, C0, d0, h5.cell 0, h5.cell 1, h5.cell 2, h5.cell 3, i7, i8⟩, ⟨A1, c1, C1, d1, h5.cell 4, h5.cell 5, h5.cell 6, h5.cell 7, i9, i10⟩, i2⟩
theorem VolO.below {u u' : World} {base : Nat} {x : VolN} {v : Value} (h : VolO u base x v) (hb : Below u.heap.size u u') : VolO u' base x v := by
  obtain ⟨A, c, B, d, C, e, g, A0, c0, C0, d0, A1, c1, C1, d1, h0, h1, h2, h3, h4, h5, h6, h7, h8, h9, h10⟩ := h
  have k := fun {vv : Value} {t size n : Nat} {xs : List Value} (hr : u.ownsRow base t size vv n xs) => row_stable hr (u' := u') fun y hy => hb.block y (row_at hr y hy).2
  exact ⟨A, c, B, d, C, e, g, A0, c0, C0, d0, A1, c1, C1, d1, h0, k h1, k h2, k h3, h4, h5.below hb h5.lt, k h6, k h7, k h8, k h9, h10⟩
theorem VolO.mono {u : World} {base base' : Nat} {x : VolN} {v : Value} (h : VolO u base x v) (hb : base' ≤ base) : VolO u base' x v := by
  obtain ⟨A, c, B, d, C, e, g, A0, c0, C0, d0, A1, c1, C1, d1, h0, h1, h2, h3, h4, h5, h6, h7, h8, h9, h10⟩ := h
  exact ⟨A, c, B, d, C, e, g, A0, c0, C0, d0, A1, c1, C1, d1, h0, row_mono h1 hb, row_mono h2 hb, row_mono h3 hb, Nat.le_trans hb h4, h5, row_mono h6 hb, row_mono h7 hb, row_mono h8 hb, row_mono h9 hb, h10⟩
theorem VolO.out {u u' : World} {base p : Nat} {x : VolN} {v : Value} (h : VolO u base x v) (hg : u.grownBy u' (some p)) (hp : p < base) : VolO u' base x v := by
  obtain ⟨A, c, B, d, C, e, g, A0, c0, C0, d0, A1, c1, C1, d1, h0, h1, h2, h3, h4, h5, h6, h7, h8, h9, h10⟩ := h
  have k := fun {vv : Value} {t size n : Nat} {xs : List Value} (hr : u.ownsRow base t size vv n xs) => row_keep hr hg (fun hm => by have := (row_at hr p hm).1; omega)
  exact ⟨A, c, B, d, C, e, g, A0, c0, C0, d0, A1, c1, C1, d1, h0, k h1, k h2, k h3, h4, h5.grown hg (by intro q; injection q with q; omega), k h6, k h7, k h8, k h9, h10⟩
theorem trust_end {w w1 : World} {r : Nat} {x0 x1 x2 x3 x4 x5 x6 x7 z0 z1 z2 z3 z4 z5 z6 z7 : Value} (hk : CellsAt w1 r 43 #[z0, z1, z2, z3, z4, z5, z6, z7]) (hb : Below w.heap.size w w1) (hr : w.heap.size ≤ r) :
    ∃ w4, ((((((((w1.setCell ⟨r, 0, none⟩ x0).setCell ⟨r, 1, none⟩ x1).setCell ⟨r, 2, none⟩ x2).setCell ⟨r, 3, none⟩ x3).setCell ⟨r, 4, none⟩ x4).setCell ⟨r, 5, none⟩ x5).setCell ⟨r, 6, none⟩ x6).setCell ⟨r, 7, none⟩ x7) = w4 ∧ (w4.cell? ⟨r, 0, none⟩ = some x0 ∧ w4.cell? ⟨r, 1, none⟩ = some x1 ∧ w4.cell? ⟨r, 2, none⟩ = some x2 ∧ w4.cell? ⟨r, 3, none⟩ = some x3 ∧ w4.cell? ⟨r, 4, none⟩ = some x4 ∧ w4.cell? ⟨r, 5, none⟩ = some x5 ∧ w4.cell? ⟨r, 6, none⟩ = some x6 ∧ w4.cell? ⟨r, 7, none⟩ = some x7) ∧ CellsAt w4 r 43 #[x0, x1, x2, x3, x4, x5, x6, x7] ∧ Below w.heap.size w w4 ∧ w1.grownBy w4 (some r) := by
  have h0 := ((((((((hk.set_ 0 x0).set_ 1 x1).set_ 2 x2).set_ 3 x3).set_ 4 x4).set_ 5 x5).set_ 6 x6).set_ 7 x7)
  simp only [List.setIfInBounds_toArray, List.set_cons_zero, List.set_cons_succ] at h0
  refine ⟨_, rfl, ?_, h0, ((((((((hb.setCell (p := ⟨r, 0, none⟩) hr x0).setCell (p := ⟨r, 1, none⟩) hr x1).setCell (p := ⟨r, 2, none⟩) hr x2).setCell (p := ⟨r, 3, none⟩) hr x3).setCell (p := ⟨r, 4, none⟩) hr x4).setCell (p := ⟨r, 5, none⟩) hr x5).setCell (p := ⟨r, 6, none⟩) hr x6).setCell (p := ⟨r, 7, none⟩) hr x7), (gb_set (gb_set (gb_set (gb_set (gb_set (gb_set (gb_set (gb_set (gb_refl w1 (some r)) 0 x0) 1 x1) 2 x2) 3 x3) 4 x4) 5 x5) 6 x6) 7 x7)⟩
  generalize World.setCell _ _ _ = w4 at h0 ⊢
  exact ⟨h0.cell 0, h0.cell 1, h0.cell 2, h0.cell 3, h0.cell 4, h0.cell 5, h0.cell 6, h0.cell 7⟩
open Go.RowKit
section
variable {P : Program} {md : Region.Mode} {ops : Array Oper} {C : World → Prop}
def headIn (P : Program) (md : Region.Mode) (ops : Array Oper) (C : World → Prop) (n : Nat) (done : Array Bool → Act → Prop) : Nat → Array Bool → Act → Prop
  | 0, up, a => done up a
  | f + 1, up, a => Region.ready md ops up ≠ [] ∧ ∀ j ∈ Region.ready md ops up, j < n ∧ qOp P ops C j (headIn P md ops C n done f (up.setIfInBounds j true)) a
theorem headIn.all {n g : Nat} {done : Array Bool → Act → Prop} {Q : Exit → Act → World → Prop} (hd : ∀ up a w, C w → done up a → wpAny P md ops Q g up a w) (f : Nat) :
    ∀ up a w, C w → headIn P md ops C n done f up a → wpAny P md ops Q (f + g) up a w := by
  induction f with
  | zero => intro up a w hw h; rw [Nat.zero_add]; exact hd up a w hw h
  | succ f ih =>
    intro up a w hw h
    rw [Nat.add_right_comm]
    exact ⟨fun h0 => absurd h0 h.1, fun j hj => wpOp_of_qOp hw (fun a' w' hw' h' => ih _ a' w' hw' h') (h.2 j hj).2⟩
theorem headIn.first {n i : Nat} {oi : Oper} {v : Value} {done : Array Bool → Act → Prop} (hi : ops[i]? = some oi) (hsel : ∀ (j : Nat) (o : Oper) cs b, ops[j]? = some o → o.op ≠ .select cs b)
    (hs : Region.sinkB md ops n = true) (hc : Region.chainB md ops n = true) (hn : n < ops.size) (hin : i < n) (hdone : ∀ up a, done up a → ∀ j ∈ Region.ready md ops up, n ≤ j) (f : Nat) :
    ∀ up a, HeadInv md ops n up → (∀ j oj, ops[j]? = some oj → j ≠ i → up.getD j true = false → (∀ e ∈ oj.after, Region.binds md e = true → e.on ≠ i) → oi.apart ops oj = true) →
      i ∈ Region.ready md ops up → YieldsIn P ops C oi v a → headIn P md ops C n done f (up.setIfInBounds i true) (a.put oi.dst v) → headIn P md ops C n done (f + 1) up a := by
  induction f with
  | zero =>
    intro up a inv _ hr hy H
    refine ⟨fun h0 => (by rw [h0] at hr; cases hr), fun j hj => ?_⟩
    have hji : j = i := by
      refine Classical.byContradiction fun hne => ?_
      exact tail_waits hs hc hn inv _ i rfl hin (mem_ready.1 hr).1 j (hdone _ _ H j (ready_mono hj hne)) hj
    subst hji
    exact ⟨hin, hy.qOp hi H⟩
  | succ f ih =>
    intro up a inv hfree hr hy H
    refine ⟨fun h0 => (by rw [h0] at hr; cases hr), fun j hj => ?_⟩
    by_cases hji : j = i
    · subst hji; exact ⟨hin, hy.qOp hi H⟩
    · obtain ⟨hjn, hj1⟩ := H.2 j (ready_mono hj hji)
      obtain ⟨hjun, oj, hoj, hall⟩ := mem_ready.1 hj
      have hnot : ∀ e ∈ oj.after, Region.binds md e = true → e.on ≠ i := by
        intro e he hb heq
        have h2 := hall e he hb
        rw [heq, getD_both (mem_ready.1 hr).1] at h2
        cases h2
      have hboth := qOp_put hoj (hfree j oj hoj hji hjun hnot) (fun cs b => hsel i oi cs b hi) (fun cs b => hsel j oj cs b hoj) hy hj1
      refine ⟨hjn, qOp_mono (fun a' h3 => ih _ a' (inv.set hj hjn) ?_ (ready_mono hr (Ne.symm hji)) h3.1 ?_) hboth⟩
      · intro k ok hk hki hun hno
        refine hfree k ok hk hki ?_ hno
        by_cases hjk : j = k
        · subst hjk; exact hjun
        · rwa [getD_set_ne true hjk] at hun
      · rw [Array.setIfInBounds_comm _ _ hji]; exact h3.2
theorem headIn.lex {n g : Nat} {R : Act → Prop} (hsel : Region.noSelect ops = true) (hs : Region.sinkB md ops n = true) (hc : Region.chainB md ops n = true) (hn : n < ops.size) (l : List Oper) :
    ∀ (k : Nat) up a, (∀ j, j < l.length → l[j]? = ops[k + j]?) → k + l.length = n → HeadInv md ops n up → Region.lexHead md ops g l.length k up = true → wpQuiet P ops C R l a →
      headIn P md ops C n (fun up a => Region.seqB md ops g n up = true ∧ R a) l.length up a := by
  induction l with
  | nil =>
    intro k up a _ hk _ hB h
    obtain rfl : k = n := hk
    exact ⟨hB, h⟩
  | cons o l ih =>
    intro k up a hl hk inv hB h
    have h0 : ops[k]? = some o := by have := hl 0 (by simp); simpa using this.symm
    simp only [List.length_cons, Region.lexHead, Bool.and_eq_true, List.contains_iff_mem] at hB
    obtain ⟨⟨hr, hf⟩, hB'⟩ := hB
    have hkn : k < n := by simp only [List.length_cons] at hk; omega
    have hq : qOp P ops C k (wpQuiet P ops C R l) a := by unfold qOp; rw [h0]; exact h
    obtain ⟨v, hy, hrest⟩ := yieldsIn_of_qOp h0 hq
    refine headIn.first h0 (Region.noSelect_spec hsel) hs hc hn hkn (fun up' a' hd => seqB_ready hd.1) l.length up a inv (Region.free_spec h0 hf) hr hy ?_
    refine ih (k + 1) _ _ (fun j hj => ?_) (by simp only [List.length_cons] at hk; omega) (inv.set hr hkn) hB' hrest
    have := hl (j + 1) (by simp only [List.length_cons]; omega)
    rw [List.getElem?_cons_succ] at this
    rw [this, Nat.add_right_comm, Nat.add_assoc]
theorem wp_region_class_tail {id : Nat} {Q : Exit → Act → World → Prop} {a : Act} {w : World} {l : List Oper} (n : Nat) (hm : P.follows .mixedOrders = true) (hB : Region.lexTailB .any l.toArray n = true) (hC : C w.drew)
    (h : wpQuiet P l.toArray C (fun a' => ∀ w', C w' → wpList P l.toArray Q (l.drop n) a' w') (l.take n) a) : (Code.region id l.toArray true).wp P Q a w := by
  unfold Region.lexTailB at hB
  simp only [Bool.and_eq_true, decide_eq_true_eq] at hB
  obtain ⟨⟨⟨⟨hsel, hn⟩, hs⟩, hc⟩, hlex⟩ := hB
  have hnl : n < l.length := by simpa using hn
  have htl : (l.take n).length = n := by rw [List.length_take]; omega
  have hdl : (l.drop n).length = l.toArray.size - n := by simp
  have inv0 : HeadInv .any l.toArray n (Array.replicate l.toArray.size false) :=
    { size := by simp
      closed := fun j oj _ hl _ _ _ => by rw [getD_replicate_false] at hl; cases hl
      tail := fun t _ ht => getD_in (by simpa using ht) (getD_replicate_false _ _) }
  have H := headIn.lex (P := P) (C := C) (md := .any) (g := l.toArray.size - n) hsel hs hc hn (l.take n) 0 (Array.replicate l.toArray.size false) a (fun j hj => by
    rw [htl] at hj
    simp [List.getElem?_take_of_lt hj]) (by rw [htl]; omega) inv0 (by rw [htl]; exact hlex) h
  refine wp_region_any hm ?_
  have HA := headIn.all (Q := Q) (g := l.toArray.size - n) (fun up a' w' hw' hd => by
    have ht := wpAny_of_seq (P := P) (md := .any) (ops := l.toArray) (Q' := Q) (l.drop n) n up a' w' (fun j => by simp [List.getElem?_drop]) (by rw [hdl]; exact hd.1) (hd.2 w' hw')
    rwa [hdl] at ht) _ _ _ _ hC H
  rw [htl, show n + (l.toArray.size - n) = l.toArray.size by omega] at HA
  exact HA
end
theorem vol_end {w w1 : World} {r : Nat} {t : TypeId} {x0 x1 x2 x3 x4 x5 y0 y1 y2 y3 y4 y5 : Value} (hk : CellsAt w1 r t #[y0, y1, y2, y3, y4, y5]) (hb : Below w.heap.size w w1) (hr : w.heap.size ≤ r) :
    ∃ w4, ((((((w1.setCell ⟨r, 0, none⟩ x0).setCell ⟨r, 1, none⟩ x1).setCell ⟨r, 2, none⟩ x2).setCell ⟨r, 3, none⟩ x3).setCell ⟨r, 4, none⟩ x4).setCell ⟨r, 5, none⟩ x5) = w4 ∧ (w4.cell? ⟨r, 0, none⟩ = some x0 ∧ w4.cell? ⟨r, 1, none⟩ = some x1 ∧ w4.cell? ⟨r, 2, none⟩ = some x2 ∧ w4.cell? ⟨r, 3, none⟩ = some x3 ∧ w4.cell? ⟨r, 4, none⟩ = some x4 ∧ w4.cell? ⟨r, 5, none⟩ = some x5) ∧ Below w.heap.size w w4 ∧ w1.grownBy w4 (some r) := by
  have h := (((((hk.set_ 0 x0).set_ 1 x1).set_ 2 x2).set_ 3 x3).set_ 4 x4).set_ 5 x5
  simp only [List.setIfInBounds_toArray, List.set_cons_zero, List.set_cons_succ] at h
  have hb2 := (((((hb.setCell (p := ⟨r, 0, none⟩) hr x0).setCell (p := ⟨r, 1, none⟩) hr x1).setCell (p := ⟨r, 2, none⟩) hr x2).setCell (p := ⟨r, 3, none⟩) hr x3).setCell (p := ⟨r, 4, none⟩) hr x4).setCell (p := ⟨r, 5, none⟩) hr x5
  have hg := gb_set (gb_set (gb_set (gb_set (gb_set (gb_set (gb_refl w1 (some r)) 0 x0) 1 x1) 2 x2) 3 x3) 4 x4) 5 x5
  generalize World.setCell _ _ _ = w4 at h hb2 hg ⊢
  exact ⟨w4, rfl, ⟨h.cell 0, h.cell 1, h.cell 2, h.cell 3, h.cell 4, h.cell 5⟩, hb2, hg⟩
def Sep (a b : List Nat) : Prop := ∀ y ∈ a, y ∉ b
theorem Sep.symm {a b : List Nat} (h : Sep a b) : Sep b a := fun y hy ha => h y ha hy
theorem sep_new {l a : List Nat} {N : Nat} (hl : ∀ y ∈ l, y < N) (ha : ∀ y ∈ a, N ≤ y) : Sep l a := fun y hy hm => by have := hl y hy; have := ha y hm; omega
theorem gb_newer {a u v : World} {r : Option Nat} {g : Nat} (h : a.grownBy u r) (hg : u.grownBy v (some g)) (hn : a.heap.size ≤ g) : a.grownBy v r :=
  ⟨hg.os.trans h.os, hg.tape.trans h.tape, hg.output.trans h.output, Nat.le_trans h.size hg.size, fun i hi hr => (hg.block i (Nat.lt_of_lt_of_le hi h.size) (by intro e; injection e with e; omega)).trans (h.block i hi hr)⟩
section
variable {b w0 u v : World} {p : Nat} {L : List Box} {M : List Ce} {T : TypeId} {old : Array Value} {V : Value → Array Value} {D : Nat → Bool} {γ γ' : Nat → Value}
theorem setD_self {D : Nat → Bool} {i : Nat} : setD D i i = true := by simp [setD]
theorem setD_ne {D : Nat → Bool} {i j : Nat} (h : j ≠ i) : setD D i j = D j := by simp [setD, h]
theorem setG_self {γ : Nat → Value} {i : Nat} {w : Value} : setG γ i w i = w := by simp [setG]
theorem setG_ne {γ : Nat → Value} {i j : Nat} {w : Value} (h : j ≠ i) : setG γ i w j = γ j := by simp [setG, h]
end
end Go.Proofs.YtgaecedhkbneaaaGreat.Mx

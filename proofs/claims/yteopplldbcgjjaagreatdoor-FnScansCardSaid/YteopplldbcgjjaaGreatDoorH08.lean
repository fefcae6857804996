import Derived.Test.YteopplldbcgjjaaGreatDoorH07
import Derived.Test.YteopplldbcgjjaaGreatDoorH05
import Derived.Great.BuildSlice
namespace Go.Proofs.YteopplldbcgjjaaGreatDoor.Mx
open Go.ChangeShapes Go.WideShapes Go.ChangeAt Go.RowKit
set_option linter.unusedVariables false
open Go.Lib (hid)
set_option maxHeartbeats 64000000
def flagN (b : Bool) : Int := if b then 1 else 0
def macRow (t : Tru) : List Int := [t.clock, t.epoch, t.cursor, t.read, t.written, t.nread, t.nwritten, flagN t.failed]
def macList (count : Int) (L : List Tru) : List Int := [3, count, (L.length : Int)] ++ L.flatMap macRow
noncomputable def macOf (key : Int) (l : List Int) (count : Int) (L : List Tru) : Int :=
 open Classical in if planOk key l then mixOf key (macList count L) else -1
def TruI (t : Tru) : Prop := I64 t.clock ∧ I64 t.epoch ∧ I64 t.cursor ∧ I64 t.read ∧ I64 t.written ∧ I64 t.nread ∧ I64 t.nwritten
def TrusI (L : List Tru) : Prop := ∀ i, i < L.length → TruI (L.getD i default)
theorem flagN_i64 (b : Bool) : I64 (flagN b) := by cases b <;> (unfold flagN I64; simp)
theorem I64s.append {l m : List Int} (h : I64s l) (h2 : I64s m) : I64s (l ++ m) := by
 intro i hi
 rw [List.getD_eq_getElem?_getD]
 rcases Nat.lt_or_ge i l.length with hl | hl
 ·rw [List.getElem?_append_left hl, ← List.getD_eq_getElem?_getD]; exact h i hl
 ·rw [List.getElem?_append_right hl, ← List.getD_eq_getElem?_getD]; exact h2 _ (by rw [List.length_append] at hi; omega)
theorem macRow_i64 {t : Tru} (h : TruI t) : I64s (macRow t) := by
 obtain ⟨a, b, c, d, e, f, g⟩ := h
 have hf := flagN_i64 t.failed
 exact I64s.cons a.1 a.2 (I64s.cons b.1 b.2 (I64s.cons c.1 c.2 (I64s.cons d.1 d.2 (I64s.cons e.1 e.2 (I64s.cons f.1 f.2 (I64s.cons g.1 g.2 (I64s.cons hf.1 hf.2 I64s.nil)))))))
theorem takeT_succ {L : List Tru} {k : Nat} (h : k < L.length) : (L.take (k + 1)).flatMap macRow = (L.take k).flatMap macRow ++ macRow (L.getD k default) := by
 rw [List.take_succ_eq_append_getElem h, List.flatMap_append, List.getD_eq_getElem?_getD, List.getElem?_eq_getElem h]; simp
theorem macRow_len (L : List Tru) : (L.flatMap macRow).length = L.length * 8 := by
 induction L with
 | nil => rfl
 | cons t L ih => rw [List.flatMap_cons, List.length_append, ih, List.length_cons]; show 8 + _ = _; omega
theorem Row.below {w w' : World} {base t : Nat} {v : Value} {zs : List Int} (h : Row w base t v zs) (hb : Below w.heap.size w w') : Row w' base t v zs :=
 ⟨h.1.kept (below_gb hb none) (by cases e : v.ownBlock with | none => exact .inl rfl | some k => exact .inr (by intro e2; cases e2)), h.2⟩
theorem Kept.grownO {b w w' : World} {L : List Box} {r : Option Nat} (h : Kept b L w) (hg : w.grownBy w' r) (hr : ∀ k, r = some k → b.heap.size ≤ k ∧ ∀ x ∈ L, x.1 ≠ k) : Kept b L w' :=
 ⟨h.1.trans ((gr_below (B := b.heap.size) hg h.1.size (fun k hk => (hr k hk).1))), fun x hx => ⟨(h.2 x hx).1, (h.2 x hx).2.grown hg (by intro e; exact (hr x.1 e.symm).2 x hx rfl)⟩⟩
theorem Row.lit (w : World) (base : Nat) (zs : List Int) (hb : base ≤ w.heap.size) (hm : zs.length ≤ maxLen) (hi : I64s zs) : Row (w.alloc (.cells (zs.map (Value.int .i64)).toArray 2)) base 2 (.slice (some ⟨w.heap.size, 0, none⟩) zs.length zs.length) zs :=
 ⟨⟨by simp, .inr ⟨w.heap.size, zs.length, (zs.map (Value.int .i64)).toArray, rfl, hb, heap_alloc_last w _, Nat.le_refl _, hm, by simp, by simp only [Nat.mul_one]; rw [List.take_of_length_le (by simp)]⟩⟩, hi⟩
theorem l1Flag_calls (b : Bool) (w : World) : Calls Tryz.prog 155 #[.bool b] w fun e w' => e = .returned (.int .i64 (flagN b)) ∧ w = w' := by
 cases b
 all_goals
  go_enter Tryz.func155, Tryz.ntmps155
  go_wp2
  go_ret
  exact ⟨rfl, rfl⟩
def MacC (b : World) (L : List Box) (base : Nat) (p : Value) (zs ys : List Int) (cs : Array Value) (D : Nat → Bool) (γ : Nat → Value) (u : World) : Prop :=
 Kept b L u ∧ base ≤ u.heap.size ∧ (D 19 = false → Row u base 2 p zs) ∧ (D 18 = true → D 19 = false → ∃ g, γ 18 = .slice (some ⟨g, 0, none⟩) 8 8 ∧ CellsAt u g 2 cs) ∧ (D 19 = true → Row u base 2 (γ 19) (zs ++ ys)) ∧ (D 19 = true → D 18 = true)
theorem MacC.loc {b u : World} {L : List Box} {base : Nat} {p : Value} {zs ys : List Int} {cs : Array Value} {D : Nat → Bool} {γ γ' : Nat → Value} (ha : ∀ i, D i = true → γ i = γ' i) (h : MacC b L base p zs ys cs D γ u) : MacC b L base p zs ys cs D γ' u := by
 obtain ⟨h1, h2, h3, h4, h5, h6⟩ := h
 refine ⟨h1, h2, h3, fun d e => ?_, fun d => ?_, h6⟩
 ·rw [← ha _ d]; exact h4 d e
 ·rw [← ha _ d]; exact h5 d
set_option maxRecDepth 20000 in
theorem specMac_calls (key count : Int) (A C : Option Addr) (l : List Int) (cap : Nat) (L : List Tru) (cap2 : Nat) (w : World) (hn : l.length ≤ maxLen) (hA : Ints w .i64 w.heap.size A l) (hN : L.length ≤ 1048576) (hC : Trs w w.heap.size C L) (hI : TrusI L) (hc0 : I64 count) :
    Calls Tryz.prog 151 #[.agg (pA key A l.length cap), .int .i64 count, .slice C L.length cap2] w fun e w' => e = .returned (.int .i64 (macOf key l count L)) ∧ Below w.heap.size w w' := by
 have K0 := hid (show Kept w [(w.heap.size, 26, (pA key A l.length cap))] _ from (Kept.refl w).put1 _ _ (pA key A l.length cap) rfl)
 have PO := hid (fun (u : World) (hb : Below w.heap.size w u) => specPlanOk_calls key A l cap u hn ((hA.below hb (Nat.le_refl _)).more hb.size))
 have HC := hid hC
 have HI := hid hI
 unfold macOf
 clear hA hC hn hI
 by_cases hp : planOk key l
 ·rw [if_pos hp]
  rw [okB_yes hp] at PO
  clear hp
  go_enter Tryz.func151, Tryz.ntmps151
  go_wp2_with fail
  refine (PO.out _ K0.out.1).mono ?_; rintro e w1 ⟨rfl, b1⟩
  have h1 := K0.out.below b1
  have H1 := hid h1
  clear b1 K0
  obtain ⟨X0, Y0, -⟩ := h1.rd
  have hs1 : w.heap.size + 1 ≤ w1.heap.size := h1.lt (x := (w.heap.size, 26, (pA key A l.length cap))) (by simp)
  have RW := hid (Row.lit w1 (w.heap.size + 1) [3, count, (L.length : Int)] hs1 (by simp [maxLen]) (I64s.cons (by omega) (by omega) (I64s.cons hc0.1 hc0.2 (I64s.cons (by omega) (by omega) I64s.nil))))
  clear h1 hc0
  go_wp2_with fail
  clear X0 Y0
  go_loopw [7, 8] (fun p i wr => ∃ (k : Nat) (q : Value), q = p ∧ k ≤ L.length ∧ i = .int .i64 k ∧ Row wr (w.heap.size + 1) 2 p ([3, count, (L.length : Int)] ++ (L.take k).flatMap macRow) ∧ Kept w [(w.heap.size, 26, (pA key A l.length cap))] wr) (fun _ i _ => L.length - (intOf i).toNat)
  case atStart => exact ⟨0, _, rfl, Nat.zero_le _, rfl, RW.out, H1.out.below ((Below.refl _ _).alloc (Nat.le_refl _) _)⟩
  case round =>
   obtain ⟨k, p, rfl, hk, rfl, hrow, hz⟩ := hrel
   by_cases hlt : k < L.length
   ·obtain ⟨b, off, rfl, hb, hc⟩ := HC.out.at_ hlt
    have hlt' : (k : Int) < L.length := by omega
    have hk0 : (0 : Int) ≤ k := by omega
    have hti := HI.out k hlt
    have HS := hid (takeT_succ hlt)
    have hln := macRow_len (L.take k)
    rw [List.length_take, Nat.min_eq_left hk] at hln
    have HL := hid hln
    clear hln
    generalize L.getD k default = t at hc hti HS
    generalize (L.take k).flatMap macRow = ms at hrow HS HL
    generalize hzs : [3, count, (L.length : Int)] ++ ms = zs at hrow
    have HZ := hid hzs
    have hzl : zs.length = 3 + k * 8 := by rw [← hzs, List.length_append, HL.out]; rfl
    clear hzs
    have HZL := hid hzl
    clear hzl
    have TI := hid hti
    clear hti
    have hs2 : w.heap.size + 1 ≤ wr.heap.size := hz.lt (x := (w.heap.size, 26, (pA key A l.length cap))) (by simp)
    obtain ⟨c0, c1, c2, c3, c4, c5, c6, c7⟩ := hc.below hz.1 hb
    go_upto_region 8 with fail
    clear c0 c1 c2 c3 c4 c5 c6 c7
    have hne : ∀ g, p.ownBlock = some g → w.heap.size + 1 ≤ g ∧ g < wr.heap.size := fun g hg => hrow.1.lt g hg
    have hz2 := hz.put1 wr.heap.size 28 (tR t) rfl
    have hr2 : Row (wr.alloc (.cells (tR t) 28)) (w.heap.size + 1) 2 p zs := hrow.below ((Below.refl _ _).alloc (Nat.le_refl _) _)
    have HM := hid (show ∀ γ, MacC w [(wr.heap.size, 28, (tR t)), (w.heap.size, 26, (pA key A l.length cap))] (w.heap.size + 1) p zs (macRow t) #[.int .i64 t.clock, .int .i64 t.epoch, .int .i64 t.cursor, .int .i64 t.read, .int .i64 t.written, .int .i64 t.nread, .int .i64 t.nwritten, .int .i64 (flagN t.failed)] (fun _ => false) γ (wr.alloc (.cells (tR t) 28)).drew from fun γ => ⟨hz2.drew, by simp; omega, fun _ => ⟨hr2.1.drew, hr2.2⟩, fun e => (by cases e), fun e => (by cases e), fun e => (by cases e)⟩)
    clear hrow hz hz2 hr2
    have hlf : L.length ≤ 1048576 := hN
    refine wp_region_free [false, false, false, false, false, false, false, false, false, false, false, false, false, false, false, false, false, true, true, true, false] (fun i v => (i = 17 → v = .int .i64 (flagN t.failed)) ∧ (i = 18 → ∃ g : Nat, v = .slice (some ⟨g, 0, none⟩) 8 8)) (fun D γ u => MacC w [(wr.heap.size, 28, (tR t)), (w.heap.size, 26, (pA key A l.length cap))] (w.heap.size + 1) p zs (macRow t) #[.int .i64 t.clock, .int .i64 t.epoch, .int .i64 t.cursor, .int .i64 t.read, .int .i64 t.written, .int .i64 t.nread, .int .i64 t.nwritten, .int .i64 (flagN t.failed)] D γ u) (by kernel_rfl) (by kernel_rfl) (fun γ => by kernel_rfl) (fun D γ γ' w ha h => h.loc ha) (fun i => ?inh) HM.out (fun γ hγ => ?_)
    case inh =>
     by_cases h1 : i = 17
     ·subst h1; exact ⟨_, fun _ => rfl, fun e => by cases e⟩
     ·exact ⟨.slice (some ⟨0, 0, none⟩) 8 8, fun e => absurd e h1, fun _ => ⟨0, rfl⟩⟩
    have g17 : γ 17 = .int .i64 (flagN t.failed) := (hγ 17 rfl).1 rfl
    obtain ⟨gb, g18⟩ := (hγ 18 rfl).2 rfl
    obtain ⟨vv, g19⟩ : ∃ v, v = γ 19 := ⟨_, rfl⟩
    apply Exists.intro
    refine ⟨fun D => ?_, ?_, ?_⟩
    ·simp only [hushL, cond_true, cond_false, Nat.reduceAdd, g17, g18, ← g19]
     iterate 21 (first
      | go_big_quiet_skip
      | (go_big_quiet_want
         go_big_quiet_op
         first
          | go_big_quiet_on
          | (apply Exists.intro
             refine ⟨fun u hu => ?_, ?_⟩
             ·first
                | with_reducible rfl
                | (obtain ⟨X0, Y0, X1, Y1, -⟩ := hu.1.rd; go_simp; first | done | with_reducible rfl)
             go_big_quiet_on)))
     exact wpQuiet_nil rfl
    ·simp only [freeOk, Nat.reduceAdd]
     refine ⟨fun D u hD hd hu => ?_, fun D u hD hd hu => ?_, fun D u hD hd hu => ?_, trivial⟩
     ·refine steps_call ((l1Flag_calls t.failed u).mono fun e w' ⟨he, hw⟩ => ⟨_, he, ⟨fun _ => rfl, fun e => by cases e⟩, ?_⟩) rfl rfl rfl rfl (by kernel_rfl)
      subst hw
      exact MacC.loc (γ := γ) (D := setD D 17) (fun i hi => by unfold setG; by_cases h : i = 17; rotate_left; rw [if_neg h]; subst h; rw [if_pos rfl]; exact g17) ⟨hu.1, hu.2.1, fun e => hu.2.2.1 (by simpa [setD] using e), fun e1 e2 => hu.2.2.2.1 (by simpa [setD] using e1) (by simpa [setD] using e2), fun e => hu.2.2.2.2.1 (by simpa [setD] using e), fun e => by have := hu.2.2.2.2.2 (by simpa [setD] using e); simp [setD, this]⟩
     ·have e2 : D 19 = false := by
        cases h19 : D 19 with
        | false => rfl
        | true => have := hu.2.2.2.2.2 h19; rw [hD] at this; cases this
      have hrow := hu.2.2.1 e2
      refine steps_build 24 2 8 1 8 (.int .i64 0) _ #[.int .i64 t.clock, .int .i64 t.epoch, .int .i64 t.cursor, .int .i64 t.read, .int .i64 t.written, .int .i64 t.nread, .int .i64 t.nwritten, .int .i64 (flagN t.failed)] rfl Tryz.underlying24 info_i64 (by omega) (by omega) (by simp [Instr.fill, go_sem]) ⟨⟨fun e => (by cases e), fun _ => ⟨_, rfl⟩⟩, ?_⟩
      have ha : Below u.heap.size u (u.alloc (.cells #[.int .i64 t.clock, .int .i64 t.epoch, .int .i64 t.cursor, .int .i64 t.read, .int .i64 t.written, .int .i64 t.nread, .int .i64 t.nwritten, .int .i64 (flagN t.failed)] 2)) := (Below.refl _ _).alloc (Nat.le_refl _) _
      exact ⟨hu.1.below ha, Nat.le_trans hu.2.1 ha.size, fun _ => hrow.below ha, fun _ _ => ⟨_, by unfold setG; rw [if_pos rfl], CellsAt.new u 2 #[.int .i64 t.clock, .int .i64 t.epoch, .int .i64 t.cursor, .int .i64 t.read, .int .i64 t.written, .int .i64 t.nread, .int .i64 t.nwritten, .int .i64 (flagN t.failed)]⟩, fun e => by (simp [setD, e2] at e), fun _ => by simp [setD]⟩
     ·have dk := hd { on := 18, ground := Ground.data } (by simp) rfl rfl
      obtain ⟨g0, e1, hcg⟩ := hu.2.2.2.1 dk hD
      obtain rfl : gb = g0 := by rw [g18] at e1; simpa using e1
      have hrow := hu.2.2.1 hD
      have hnews := World.news_of_block (w := u) (B := gb) (cs := #[.int .i64 t.clock, .int .i64 t.epoch, .int .i64 t.cursor, .int .i64 t.read, .int .i64 t.written, .int .i64 t.nread, .int .i64 t.nwritten, .int .i64 (flagN t.failed)]) (t := 2) hcg
      refine steps_append _ _ 24 rfl (w.heap.size + 1) 2 1 8 zs.length (.int .i64 0) p (zs.map (Value.int .i64)) (some ⟨gb, 0, none⟩) 8 8 (#[.int .i64 t.clock, .int .i64 t.epoch, .int .i64 t.cursor, .int .i64 t.read, .int .i64 t.written, .int .i64 t.nread, .int .i64 t.nwritten, .int .i64 (flagN t.failed)] : Array Value).toList Tryz.underlying24 info_i64 rfl (by omega) rfl hrow.1 rfl rfl (fun j v hv => ⟨_, rfl, hnews j v hv⟩) (by intro v hv; simp at hv; rcases hv with rfl | rfl | rfl | rfl | rfl | rfl | rfl | rfl <;> rfl) (by rw [HZL.out]; unfold maxLen; omega) (by rw [HZL.out]; omega) hu.2.1 ?_
      intro v' w' hown hg _
      have hk2 := hu.1.grownO hg (fun g e => ⟨by have := (hne g e).1; omega, by intro y hy; simp at hy; rcases hy with rfl | rfl <;> (have := hne g e; simp; omega)⟩)
      exact ⟨⟨fun e => (by cases e), fun e => (by cases e)⟩, hk2, Nat.le_trans hu.2.1 hg.size, fun e => by (simp [setD] at e), fun _ e => by (simp [setD] at e), fun _ => ⟨by unfold setG; rw [if_pos rfl, List.length_append, List.map_append]; exact hown, I64s.append hrow.2 (macRow_i64 TI.out)⟩, fun _ => by simp [setD, dk]⟩
    ·intro D u hD hu
     have hrw := hu.2.2.2.2.1 (hD 19 (by simp) rfl)
     rw [← g19] at hrw
     have hkp := hu.1.sub (L' := [(w.heap.size, 26, (pA key A l.length cap))]) (by intro y hy; simp at hy ⊢; right; exact hy)
     clear hu hD
     go_wp2_with fail
     go_roundw
     case rel => exact ⟨k + 1, _, rfl, by omega, by go_num, by have h := hrw; rw [← HZ.out] at h; rw [HS.out]; simpa [List.append_assoc] using h, hkp⟩
     case measure => simp [intOf]; omega
   ·have hk' : k = L.length := by omega
    subst hk'
    have hr2 := hrow
    rw [List.take_length] at hr2
    obtain ⟨B, c, rfl, hI⟩ := hr2.reads
    have hlen : ([3, count, (L.length : Int)] ++ L.flatMap macRow).length = 3 + L.length * 8 := by rw [List.length_append, macRow_len]; rfl
    have MX := hid (fun u hI => specMix_calls key B ([3, count, (L.length : Int)] ++ L.flatMap macRow) c wr.heap.size u (by rw [hlen]; unfold maxLen; omega) hI hr2.2)
    rw [show mixOf key ([3, count, (L.length : Int)] ++ L.flatMap macRow) = mixOf key (macList count L) from rfl] at MX
    have HIN := hid hI
    have HZ := hid hz
    have hne : ¬ (L.length : Int) < L.length := by omega
    obtain ⟨mx, hmx⟩ : ∃ m, m = mixOf key (macList count L) := ⟨_, rfl⟩
    rw [← hmx] at MX
    have HMX := hid hmx
    clear hmx
    generalize ([3, count, (L.length : Int)] ++ L.flatMap macRow).length = zl at MX
    clear hrow hr2 hI
    obtain ⟨X0, Y0, -⟩ := hz.rd
    clear hz
    go_wp2_with fail
    refine (MX.out _ HIN.out).mono ?_; rintro e w2 ⟨rfl, rfl⟩
    go_wp2_with fail
    go_ret
    exact ⟨by rw [← HMX.out]; rfl, HZ.out.1⟩
 ·rw [if_neg hp]
  rw [okB_no hp] at PO
  clear hp
  go_enter Tryz.func151, Tryz.ntmps151
  go_wp2_with fail
  refine (PO.out _ K0.out.1).mono ?_; rintro e w1 ⟨rfl, b1⟩
  have h1 := K0.out.below b1
  clear b1 K0
  go_wp2_with fail
  go_ret
  exact ⟨rfl, h1.1⟩
def CelAt (w : World) (b off : Nat) (t : Ce) : Prop := w.cell? ⟨b, off, none⟩ = some (.int .i64 t.1) ∧ w.cell? ⟨b, off + 1, none⟩ = some (.int .i64 t.2)
theorem CelAt.below {w u : World} {B b off : Nat} {t : Ce} (h : CelAt w b off t) (hb : Below B w u) (hlt : b < B) : CelAt u b off t := by
 have f := fun o => hb.cell (p := ⟨b, o, none⟩) hlt
 exact ⟨(f _).trans h.1, (f _).trans h.2⟩
theorem Cls.at_ {w : World} {B : Nat} {A : Option Addr} {L : List Ce} {k : Nat} (h : Cls w B A L) (hk : k < L.length) : ∃ b off, A = some ⟨b, off, none⟩ ∧ b < B ∧ CelAt w b (off + k * 2) (L.getD k default) := by
 obtain ⟨b, off, e, hb, hc⟩ := h k hk
 exact ⟨b, off, e, hb, hc 0 (by omega), hc 1 (by omega)⟩
def cellsOk (key : Int) (l : List Int) (L : List Ce) : Prop := (∀ i, i < L.length → isCell (L.getD i default).1 (L.getD i default).2) ∧ (L.length : Int) = sectorsOf key l
open Classical in
noncomputable def cellsB (key : Int) (l : List Int) (L : List Ce) : Bool := decide (cellsOk key l L)
open Classical in
theorem cellsB_yes {key : Int} {l : List Int} {L : List Ce} (h : cellsOk key l L) : cellsB key l L = true := by unfold cellsB; exact decide_eq_true h
open Classical in
theorem cellsB_no {key : Int} {l : List Int} {L : List Ce} (h : ¬ cellsOk key l L) : cellsB key l L = false := by unfold cellsB; exact decide_eq_false h
def UpToCell (L : List Ce) (k : Nat) : Prop := ∀ i, i < k → isCell (L.getD i default).1 (L.getD i default).2
set_option maxRecDepth 20000 in
theorem l11Cells_calls (key : Int) (A C : Option Addr) (l : List Int) (cap : Nat) (L : List Ce) (cap2 : Nat) (w : World) (hn : l.length ≤ maxLen) (hA : Ints w .i64 w.heap.size A l) (hN : L.length ≤ maxLen) (hC : Cls w w.heap.size C L) :
    Calls Tryz.prog 161 #[.agg (pA key A l.length cap), .slice C L.length cap2] w fun e w' => e = .returned (.bool (cellsB key l L)) ∧ Below w.heap.size w w' := by
 have K0 := hid (show Kept w [(w.heap.size, 26, (pA key A l.length cap))] _ from (Kept.refl w).put1 _ _ (pA key A l.length cap) rfl)
 have PO := hid (fun (u : World) (hb : Below w.heap.size w u) => specSectors_calls key A l cap u hn ((hA.below hb (Nat.le_refl _)).more hb.size))
 have TO := hid (fun (t : Ce) (u : World) => specCellOk_calls t.1 t.2 u)
 have HC := hid hC
 have hm := hN
 unfold maxLen at hm
 clear hA hC hN hn
 go_enter Tryz.func161, Tryz.ntmps161
 go_wp2_with fail
 go_loopw [5] (fun i wr => ∃ k : Nat, k ≤ L.length ∧ i = .int .i64 k ∧ UpToCell L k ∧ Kept w [(w.heap.size, 26, (pA key A l.length cap))] wr) (fun i _ => L.length - (intOf i).toNat)
 case atStart => exact ⟨0, Nat.zero_le _, rfl, fun i hi => absurd hi (by omega), K0.out⟩
 case round =>
  obtain ⟨k, hk, rfl, hup, hz⟩ := hrel
  have HU := hid hup
  clear hup
  by_cases hlt : k < L.length
  ·obtain ⟨b, off, rfl, hb, hc⟩ := HC.out.at_ hlt
   have hlt' : (k : Int) < L.length := by omega
   have hk0 : (0 : Int) ≤ k := by omega
   have TB := hid (TO.out (L.getD k default))
   obtain ⟨c0, c1⟩ := hc.below hz.1 hb
   by_cases hok : isCell (L.getD k default).1 (L.getD k default).2
   ·have NX := hid (show UpToCell L (k + 1) from fun i hi => by
      rcases Nat.lt_or_ge i k with h | h
      ·exact HU.out i h
      ·obtain rfl : i = k := by omega
       exact hok)
    rw [decide_eq_true hok] at TB
    clear hok HU
    generalize L.getD k default = t at hc TB c0 c1
    go_wp2_with fail
    refine (TB.out _).mono ?_; rintro e w1 ⟨rfl, b1⟩
    have h1 := hz.below b1
    clear b1 hz c0 c1
    go_wp2_with fail
    go_roundw
    case rel => exact ⟨k + 1, by omega, by go_num, NX.out, h1⟩
    case measure => simp [intOf]; omega
   ·rw [decide_eq_false hok] at TB
    have HX := hid (cellsB_no (l := l) (L := L) (key := key) (fun h => hok (h.1 k hlt)))
    clear hok HU
    generalize L.getD k default = t at hc TB c0 c1
    go_wp2_with fail
    refine (TB.out _).mono ?_; rintro e w1 ⟨rfl, b1⟩
    have h1 := hz.below b1
    clear b1 hz c0 c1
    go_wp2_with fail
    go_ret
    exact ⟨by rw [HX.out]; rfl, h1.1⟩
  ·have hk' : k = L.length := by omega
   subst hk'
   have PB := PO
   by_cases hs : (L.length : Int) = sectorsOf key l
   ·have HX := hid (cellsB_yes (show cellsOk key l L from ⟨HU.out, hs⟩))
    have hbl : ((L.length : Int) == sectorsOf key l) = true := beq_iff_eq.2 hs
    generalize sectorsOf key l = ss at PB hbl
    clear hs
    obtain ⟨X0, Y0, -⟩ := hz.rd
    go_wp2_with fail
    refine (PB.out _ hz.1).mono ?_; rintro e w1 ⟨rfl, b1⟩
    have h1 := hz.below b1
    clear b1 hz X0 Y0
    go_wp2_with fail
    go_ret
    exact ⟨by rw [HX.out]; rfl, h1.1⟩
   ·have HX := hid (cellsB_no (show ¬ cellsOk key l L from fun h => hs h.2))
    have hbl : ((L.length : Int) == sectorsOf key l) = false := beq_false_of_ne hs
    generalize sectorsOf key l = ss at PB hbl
    clear hs
    obtain ⟨X0, Y0, -⟩ := hz.rd
    go_wp2_with fail
    refine (PB.out _ hz.1).mono ?_; rintro e w1 ⟨rfl, b1⟩
    have h1 := hz.below b1
    clear b1 hz X0 Y0
    go_wp2_with fail
    go_ret
    exact ⟨by rw [HX.out]; rfl, h1.1⟩
noncomputable def sealB (key : Int) (l : List Int) (cnt : Int) (L : List Tru) (mac : Int) : Bool := trustsB key l L && decide (0 ≤ cnt ∧ cnt ≤ 10000) && decide (mac = macOf key l cnt L)
noncomputable def slotB (key : Int) (l : List Int) (cnt : Int) (L : List Tru) (mac : Int) (M : List Ce) : Bool := sealB key l cnt L mac && cellsB key l M
set_option maxRecDepth 20000 in
theorem specSealOk_calls (key : Int) (A : Option Addr) (l : List Int) (cap : Nat) (cnt : Int) (B : Option Addr) (L : List Tru) (tc : Nat) (mac : Int) (w : World) (hn : l.length ≤ maxLen) (hA : Ints w .i64 w.heap.size A l) (hN : L.length ≤ 1048576) (hB : Trs w w.heap.size B L) (hI : TrusI L) (hc0 : I64 cnt) :
    Calls Tryz.prog 160 #[.agg (pA key A l.length cap), .agg #[.int .i64 cnt, .slice B L.length tc, .int .i64 mac]] w fun e w' => e = .returned (.bool (sealB key l cnt L mac)) ∧ Below w.heap.size w w' := by
 have K0 := hid (show Kept w [(w.heap.size + 1, 166, #[.int .i64 cnt, .slice B L.length tc, .int .i64 mac]), (w.heap.size, 26, (pA key A l.length cap))] _ from (((Kept.refl w).put1 _ _ (pA key A l.length cap) rfl).put1 _ _ #[.int .i64 cnt, .slice B L.length tc, .int .i64 mac] (by simp)))
 have TS := hid (fun (u : World) (hb : Below w.heap.size w u) => l10Trusts_calls key A B l cap L tc u hn ((hA.below hb (Nat.le_refl _)).more hb.size) (by unfold maxLen; omega) ((hB.below hb (Nat.le_refl _)).more hb.size))
 have MC := hid (fun (u : World) (hb : Below w.heap.size w u) => specMac_calls key cnt A B l cap L tc u hn ((hA.below hb (Nat.le_refl _)).more hb.size) hN ((hB.below hb (Nat.le_refl _)).more hb.size) hI hc0)
 have IN := hid (fun (u : World) => l1In_b cnt 0 10000 _ u rfl)
 clear hA hB hN hI hc0 hn
 unfold sealB
 generalize trustsB key l L = ts at TS ⊢
 generalize macOf key l cnt L = mo at MC ⊢
 cases ts with
 | false =>
   rw [Bool.false_and, Bool.false_and]
   clear MC IN
   go_enter Tryz.func160, Tryz.ntmps160
   go_upto_region 1 with fail
   refine wp_region_class (C := fun u => Kept w [(w.heap.size + 1, 166, #[.int .i64 cnt, .slice B L.length tc, .int .i64 mac]), (w.heap.size, 26, (pA key A l.length cap))] u) (by kernel_rfl) (by kernel_rfl) (K0.out).drew ?_
   iterate 21 (first
    | go_big_quiet_skip
    | (go_big_quiet_want
       go_big_quiet_op
       first
        | go_big_quiet_on
        | (apply Exists.intro
           refine ⟨fun u hu => ?_, ?_⟩
           ·first
              | with_reducible rfl
              | (go_at_call 149; exact (TS.out u hu.1).mono fun e w' h => ⟨h.1, hu.below h.2⟩)
              | (obtain ⟨X0, Y0, X1, Y1, -⟩ := hu.rd; go_simp; first | done | with_reducible rfl)
           go_big_quiet_on)))
   refine wpQuiet_nil ?_
   intro uq hq
   go_wp2_with fail
   go_ret
   exact ⟨rfl, hq.1⟩
 | true =>
   rw [Bool.true_and]
   by_cases hr : 0 ≤ cnt ∧ cnt ≤ 10000
   ·rw [decide_eq_true hr] at IN ⊢
    rw [Bool.true_and]
    clear hr
    by_cases hm : mac = mo
    ·have hb : (mac == mo) = true := beq_iff_eq.2 hm
     rw [decide_eq_true hm]
     clear hm
     go_enter Tryz.func160, Tryz.ntmps160
     go_upto_region 1 with fail
     refine wp_region_class (C := fun u => Kept w [(w.heap.size + 1, 166, #[.int .i64 cnt, .slice B L.length tc, .int .i64 mac]), (w.heap.size, 26, (pA key A l.length cap))] u) (by kernel_rfl) (by kernel_rfl) (K0.out).drew ?_
     iterate 21 (first
      | go_big_quiet_skip
      | (go_big_quiet_want
         go_big_quiet_op
         first
          | go_big_quiet_on
          | (apply Exists.intro
             refine ⟨fun u hu => ?_, ?_⟩
             ·first
                | with_reducible rfl
                | (go_at_call 149; exact (TS.out u hu.1).mono fun e w' h => ⟨h.1, hu.below h.2⟩)
                | (go_at_call 76; exact class_same hu (IN.out u))
                | (go_at_call 151; exact (MC.out u hu.1).mono fun e w' h => ⟨h.1, hu.below h.2⟩)
                | (obtain ⟨X0, Y0, X1, Y1, -⟩ := hu.rd; go_simp; first | done | with_reducible rfl)
             go_big_quiet_on)))
     refine wpQuiet_nil ?_
     intro uq hq
     go_wp2_with fail
     go_ret
     exact ⟨rfl, hq.1⟩
    ·have hb : (mac == mo) = false := beq_false_of_ne hm
     rw [decide_eq_false hm]
     clear hm
     go_enter Tryz.func160, Tryz.ntmps160
     go_upto_region 1 with fail
     refine wp_region_class (C := fun u => Kept w [(w.heap.size + 1, 166, #[.int .i64 cnt, .slice B L.length tc, .int .i64 mac]), (w.heap.size, 26, (pA key A l.length cap))] u) (by kernel_rfl) (by kernel_rfl) (K0.out).drew ?_
     iterate 21 (first
      | go_big_quiet_skip
      | (go_big_quiet_want
         go_big_quiet_op
         first
          | go_big_quiet_on
          | (apply Exists.intro
             refine ⟨fun u hu => ?_, ?_⟩
             ·first
                | with_reducible rfl
                | (go_at_call 149; exact (TS.out u hu.1).mono fun e w' h => ⟨h.1, hu.below h.2⟩)
                | (go_at_call 76; exact class_same hu (IN.out u))
                | (go_at_call 151; exact (MC.out u hu.1).mono fun e w' h => ⟨h.1, hu.below h.2⟩)
                | (obtain ⟨X0, Y0, X1, Y1, -⟩ := hu.rd; go_simp; first | done | with_reducible rfl)
             go_big_quiet_on)))
     refine wpQuiet_nil ?_
     intro uq hq
     go_wp2_with fail
     go_ret
     exact ⟨rfl, hq.1⟩
   ·rw [decide_eq_false hr] at IN ⊢
    rw [Bool.false_and]
    clear hr MC
    go_enter Tryz.func160, Tryz.ntmps160
    go_upto_region 1 with fail
    refine wp_region_class (C := fun u => Kept w [(w.heap.size + 1, 166, #[.int .i64 cnt, .slice B L.length tc, .int .i64 mac]), (w.heap.size, 26, (pA key A l.length cap))] u) (by kernel_rfl) (by kernel_rfl) (K0.out).drew ?_
    iterate 21 (first
     | go_big_quiet_skip
     | (go_big_quiet_want
        go_big_quiet_op
        first
         | go_big_quiet_on
         | (apply Exists.intro
            refine ⟨fun u hu => ?_, ?_⟩
            ·first
               | with_reducible rfl
               | (go_at_call 149; exact (TS.out u hu.1).mono fun e w' h => ⟨h.1, hu.below h.2⟩)
               | (go_at_call 76; exact class_same hu (IN.out u))
               | (obtain ⟨X0, Y0, X1, Y1, -⟩ := hu.rd; go_simp; first | done | with_reducible rfl)
            go_big_quiet_on)))
    refine wpQuiet_nil ?_
    intro uq hq
    go_wp2_with fail
    go_ret
    exact ⟨rfl, hq.1⟩
set_option maxRecDepth 20000 in
theorem specSlotOk_calls (key : Int) (A : Option Addr) (l : List Int) (cap : Nat) (cnt : Int) (B : Option Addr) (L : List Tru) (tc : Nat) (mac : Int) (C : Option Addr) (M : List Ce) (cc : Nat) (w : World) (hn : l.length ≤ maxLen) (hA : Ints w .i64 w.heap.size A l) (hN : L.length ≤ 1048576) (hB : Trs w w.heap.size B L) (hI : TrusI L) (hc0 : I64 cnt) (hM : M.length ≤ 1048576) (hC : Cls w w.heap.size C M) :
    Calls Tryz.prog 159 #[.agg (pA key A l.length cap), .agg #[.int .i64 cnt, .slice B L.length tc, .int .i64 mac, .slice C M.length cc]] w fun e w' => e = .returned (.bool (slotB key l cnt L mac M)) ∧ Below w.heap.size w w' := by
 have K0 := hid (show Kept w [(w.heap.size + 1, 168, #[.int .i64 cnt, .slice B L.length tc, .int .i64 mac, .slice C M.length cc]), (w.heap.size, 26, (pA key A l.length cap))] _ from (((Kept.refl w).put1 _ _ (pA key A l.length cap) rfl).put1 _ _ #[.int .i64 cnt, .slice B L.length tc, .int .i64 mac, .slice C M.length cc] (by simp)))
 have SO := hid (fun (u : World) (hb : Below w.heap.size w u) => specSealOk_calls key A l cap cnt B L tc mac u hn ((hA.below hb (Nat.le_refl _)).more hb.size) hN ((hB.below hb (Nat.le_refl _)).more hb.size) hI hc0)
 have CL := hid (fun (u : World) (hb : Below w.heap.size w u) => l11Cells_calls key A C l cap M cc u hn ((hA.below hb (Nat.le_refl _)).more hb.size) (by unfold maxLen; omega) ((hC.below hb (Nat.le_refl _)).more hb.size))
 clear hA hB hN hI hc0 hn hC hM
 unfold slotB
 generalize sealB key l cnt L mac = so at SO ⊢
 generalize cellsB key l M = co at CL ⊢
 cases so with
 | false =>
   rw [Bool.false_and]
   clear CL
   go_enter Tryz.func159, Tryz.ntmps159
   go_wp2_with fail
   refine (SO.out _ K0.out.1).mono ?_; rintro e uz1 ⟨rfl, bz2⟩
   have hz3 := K0.out.below bz2
   clear bz2
   obtain ⟨X0, Y0, X1, Y1, -⟩ := hz3.rd
   go_wp2_with fail
   go_ret
   exact ⟨rfl, hz3.1⟩
 | true =>
   rw [Bool.true_and]
   go_enter Tryz.func159, Tryz.ntmps159
   go_wp2_with fail
   refine (SO.out _ K0.out.1).mono ?_; rintro e uz1 ⟨rfl, bz2⟩
   have hz3 := K0.out.below bz2
   clear bz2
   obtain ⟨X0, Y0, X1, Y1, -⟩ := hz3.rd
   go_wp2_with fail
   refine (CL.out _ hz3.1).mono ?_; rintro e uz4 ⟨rfl, bz5⟩
   have hz6 := hz3.below bz5
   clear bz5 hz3 X0 Y0 X1 Y1
   obtain ⟨X0, Y0, X1, Y1, -⟩ := hz6.rd
   go_wp2_with fail
   go_ret
   exact ⟨rfl, hz6.1⟩
structure SlN where
 count : Int
 trusts : List Tru
 mac : Int
 cells : List Ce
instance : Inhabited SlN := ⟨⟨0, [], 0, []⟩⟩
def SlN.Fits (s : SlN) : Prop := s.trusts.length ≤ 1048576 ∧ s.cells.length ≤ 1048576 ∧ TrusI s.trusts ∧ I64 s.count
def SlR (w : World) (Bd : Nat) (B : Option Addr) (tc : Nat) (C : Option Addr) (cc : Nat) (s : SlN) : Prop := Trs w Bd B s.trusts ∧ Cls w Bd C s.cells
def SlotAt (w : World) (Bd b off : Nat) (s : SlN) : Prop :=
 ∃ B tc C cc, w.cell? ⟨b, off, none⟩ = some (.int .i64 s.count) ∧ w.cell? ⟨b, off + 1, none⟩ = some (.slice B s.trusts.length tc) ∧ w.cell? ⟨b, off + 2, none⟩ = some (.int .i64 s.mac) ∧ w.cell? ⟨b, off + 3, none⟩ = some (.slice C s.cells.length cc) ∧ SlR w Bd B tc C cc s
def Slots (w : World) (Bd : Nat) (A : Option Addr) (S : List SlN) : Prop := ∀ i, i < S.length → ∃ b off, A = some ⟨b, off, none⟩ ∧ b < Bd ∧ SlotAt w Bd b (off + i * 4) (S.getD i default)
theorem SlR.below {w u : World} {Bd D : Nat} {B C : Option Addr} {tc cc : Nat} {s : SlN} (h : SlR w Bd B tc C cc s) (hb : Below D w u) (hD : Bd ≤ D) : SlR u Bd B tc C cc s := ⟨h.1.below hb hD, h.2.below hb hD⟩
theorem SlR.more {w : World} {Bd D : Nat} {B C : Option Addr} {tc cc : Nat} {s : SlN} (h : SlR w Bd B tc C cc s) (hD : Bd ≤ D) : SlR w D B tc C cc s := ⟨h.1.more hD, h.2.more hD⟩
theorem SlotAt.below {w u : World} {Bd D b off : Nat} {s : SlN} (h : SlotAt w Bd b off s) (hb : Below D w u) (hD : Bd ≤ D) (hlt : b < Bd) : SlotAt u Bd b off s := by
 obtain ⟨B, tc, C, cc, c0, c1, c2, c3, hr⟩ := h
 have f := fun o => hb.cell (p := ⟨b, o, none⟩) (Nat.lt_of_lt_of_le hlt hD)
 exact ⟨B, tc, C, cc, (f _).trans c0, (f _).trans c1, (f _).trans c2, (f _).trans c3, hr.below hb hD⟩
theorem SlotAt.more {w : World} {Bd D b off : Nat} {s : SlN} (h : SlotAt w Bd b off s) (hD : Bd ≤ D) : SlotAt w D b off s := by
 obtain ⟨B, tc, C, cc, c0, c1, c2, c3, hr⟩ := h
 exact ⟨B, tc, C, cc, c0, c1, c2, c3, hr.more hD⟩
theorem Slots.below {w u : World} {Bd D : Nat} {A : Option Addr} {S : List SlN} (h : Slots w Bd A S) (hb : Below D w u) (hD : Bd ≤ D) : Slots u Bd A S := by
 intro i hi
 obtain ⟨b, off, e, hlt, hs⟩ := h i hi
 exact ⟨b, off, e, hlt, hs.below hb hD hlt⟩
theorem Slots.more {w : World} {Bd D : Nat} {A : Option Addr} {S : List SlN} (h : Slots w Bd A S) (hD : Bd ≤ D) : Slots w D A S := by
 intro i hi
 obtain ⟨b, off, e, hlt, hs⟩ := h i hi
 exact ⟨b, off, e, by omega, hs.more hD⟩
theorem Slots.grow {w u : World} {A : Option Addr} {S : List SlN} (h : Slots w w.heap.size A S) (hb : Below w.heap.size w u) : Slots u u.heap.size A S := (h.below hb (Nat.le_refl _)).more hb.size
noncomputable def choiceB (key : Int) (l : List Int) (n : Int) (s : SlN) : Bool := slotB key l s.count s.trusts s.mac s.cells && decide (s.count = n)
noncomputable def chosenOf (key : Int) (l : List Int) (S : List SlN) (n : Int) : Int := if S.findIdx (choiceB key l n) < S.length then (S.findIdx (choiceB key l n) : Int) else -1
theorem chosenOf_at {key n : Int} {l : List Int} {S : List SlN} {k : Nat} (hk : k < S.length) (h : choiceB key l n (S.getD k default) = true) (hn : ∀ j, j < k → choiceB key l n (S.getD j default) = false) : chosenOf key l S n = k := by
 have e : S.findIdx (choiceB key l n) = k := by
  rw [List.findIdx_eq hk]
  refine ⟨by rwa [List.getD_eq_getElem?_getD, List.getElem?_eq_getElem hk] at h, fun j hj => ?_⟩
  have h2 := hn j hj
  rw [List.getD_eq_getElem?_getD, List.getElem?_eq_getElem (by omega)] at h2
  simpa using h2
 unfold chosenOf
 rw [e, if_pos hk]
theorem chosenOf_none {key n : Int} {l : List Int} {S : List SlN} (hn : ∀ j, j < S.length → choiceB key l n (S.getD j default) = false) : chosenOf key l S n = -1 := by
 unfold chosenOf
 rw [if_neg]
 intro hlt
 have h := List.findIdx_getElem (w := hlt)
 have h2 := hn _ hlt
 rw [List.getD_eq_getElem?_getD, List.getElem?_eq_getElem hlt] at h2
 simp only [Option.getD_some] at h2
 rw [h2] at h; cases h
def NoneYet (key : Int) (l : List Int) (n : Int) (S : List SlN) (k : Nat) : Prop := ∀ j, j < k → choiceB key l n (S.getD j default) = false
theorem NoneYet.succ {key n : Int} {l : List Int} {S : List SlN} {k : Nat} (h : NoneYet key l n S k) (hk : choiceB key l n (S.getD k default) = false) : NoneYet key l n S (k + 1) := by
 intro j hj
 rcases Nat.lt_or_ge j k with h1 | h1
 ·exact h j h1
 ·obtain rfl : j = k := by omega
  exact hk
set_option maxRecDepth 20000 in
theorem specChosen_calls (key : Int) (A D : Option Addr) (l : List Int) (cap : Nat) (S : List SlN) (cap2 : Nat) (n : Int) (w : World) (hn : l.length ≤ maxLen) (hA : Ints w .i64 w.heap.size A l) (hN : S.length ≤ 1048576) (hD : Slots w w.heap.size D S) (hF : ∀ i, i < S.length → (S.getD i default).Fits) :
    Calls Tryz.prog 157 #[.agg (pA key A l.length cap), .slice D S.length cap2, .int .i64 n] w fun e w' => e = .returned (.int .i64 (chosenOf key l S n)) ∧ Below w.heap.size w w' := by
 have K0 := hid (show Kept w [(w.heap.size, 26, (pA key A l.length cap))] _ from (Kept.refl w).put1 _ _ (pA key A l.length cap) rfl)
 have SO := hid (fun (s : SlN) (B : Option Addr) (tc : Nat) (C : Option Addr) (cc : Nat) (hs : s.Fits) (hr : SlR w w.heap.size B tc C cc s) (u : World) (hb : Below w.heap.size w u) =>
  specSlotOk_calls key A l cap s.count B s.trusts tc s.mac C s.cells cc u hn ((hA.below hb (Nat.le_refl _)).more hb.size) hs.1 ((hr.1.below hb (Nat.le_refl _)).more hb.size) hs.2.2.1 hs.2.2.2 hs.2.1 ((hr.2.below hb (Nat.le_refl _)).more hb.size))
 have HD := hid hD
 have HF := hid hF
 clear hA hD hF hn
 go_enter Tryz.func157, Tryz.ntmps157
 go_wp2_with fail
 go_loopw [7] (fun i wr => ∃ k : Nat, k ≤ S.length ∧ i = .int .i64 k ∧ NoneYet key l n S k ∧ Kept w [(w.heap.size, 26, (pA key A l.length cap))] wr) (fun i _ => S.length - (intOf i).toNat)
 case atStart => exact ⟨0, Nat.zero_le _, rfl, fun i hi => absurd hi (by omega), K0.out⟩
 case round =>
  obtain ⟨k, hk, rfl, hup, hz⟩ := hrel
  have HU := hid hup
  clear hup
  by_cases hlt : k < S.length
  ·obtain ⟨b, off, rfl, hb, B, tc, C, cc, c0, c1, c2, c3, hr⟩ := HD.out k hlt
   have hlt' : (k : Int) < S.length := by omega
   have hk0 : (0 : Int) ≤ k := by omega
   have TB := hid (SO.out _ B tc C cc (HF.out k hlt) hr)
   have HCH := hid (show choiceB key l n (S.getD k default) = (slotB key l (S.getD k default).count (S.getD k default).trusts (S.getD k default).mac (S.getD k default).cells && decide ((S.getD k default).count = n)) from rfl)
   have HAT := hid (fun (h : choiceB key l n (S.getD k default) = true) => chosenOf_at hlt h HU.out)
   have HNX := hid (fun (h : choiceB key l n (S.getD k default) = false) => HU.out.succ h)
   clear hr
   generalize slotB key l (S.getD k default).count (S.getD k default).trusts (S.getD k default).mac (S.getD k default).cells = sb at TB HCH
   generalize choiceB key l n (S.getD k default) = ch at HCH HAT HNX
   generalize (S.getD k default).count = sc at c0 TB HCH
   generalize (S.getD k default).mac = sm at c2 TB
   generalize (S.getD k default).trusts.length = tl at c1 TB
   generalize (S.getD k default).cells.length = cl at c3 TB
   cases sb with
   | false =>
     have NX := hid (HNX.out (by rw [HCH.out, Bool.false_and]))
     clear HCH HAT HNX HU
     go_upto_region 4 with fail
     refine wp_region_class (C := fun u => Kept w [(w.heap.size, 26, (pA key A l.length cap))] u) (by kernel_rfl) (by kernel_rfl) hz.drew ?_
     iterate 16 (first
      | go_big_quiet_skip
      | (go_big_quiet_want
         go_big_quiet_op
         first
          | go_big_quiet_on
          | (apply Exists.intro
             refine ⟨fun u hu => ?_, ?_⟩
             ·first
                | with_reducible rfl
                | (go_at_call 159; exact (TB.out u hu.1).mono fun e w' h => ⟨h.1, hu.below h.2⟩)
                | (obtain ⟨X0, Y0, -⟩ := hu.rd; have d0 := (hu.1.cell (p := ⟨b, off + k * 4, none⟩) hb).trans c0; have d1 := (hu.1.cell (p := ⟨b, off + k * 4 + 1, none⟩) hb).trans c1; have d2 := (hu.1.cell (p := ⟨b, off + k * 4 + 2, none⟩) hb).trans c2; have d3 := (hu.1.cell (p := ⟨b, off + k * 4 + 3, none⟩) hb).trans c3; go_simp; first | done | with_reducible rfl)
             go_big_quiet_on)))
     refine wpQuiet_nil ?_
     intro uq hq
     go_wp2_with fail
     go_roundw
     case rel => exact ⟨k + 1, by omega, by go_num, NX.out, hq⟩
     case measure => simp [intOf]; omega
   | true =>
     by_cases hcn : sc = n
     ·have AT := hid (HAT.out (by rw [HCH.out, decide_eq_true hcn]; rfl))
      have hbe : (sc == n) = true := beq_iff_eq.2 hcn
      clear HCH HAT HNX HU hcn
      go_upto_region 4 with fail
      refine wp_region_class (C := fun u => Kept w [(w.heap.size, 26, (pA key A l.length cap))] u) (by kernel_rfl) (by kernel_rfl) hz.drew ?_
      iterate 16 (first
       | go_big_quiet_skip
       | (go_big_quiet_want
          go_big_quiet_op
          first
           | go_big_quiet_on
           | (apply Exists.intro
              refine ⟨fun u hu => ?_, ?_⟩
              ·first
                 | with_reducible rfl
                 | (go_at_call 159; exact (TB.out u hu.1).mono fun e w' h => ⟨h.1, hu.below h.2⟩)
                 | (obtain ⟨X0, Y0, -⟩ := hu.rd; have d0 := (hu.1.cell (p := ⟨b, off + k * 4, none⟩) hb).trans c0; have d1 := (hu.1.cell (p := ⟨b, off + k * 4 + 1, none⟩) hb).trans c1; have d2 := (hu.1.cell (p := ⟨b, off + k * 4 + 2, none⟩) hb).trans c2; have d3 := (hu.1.cell (p := ⟨b, off + k * 4 + 3, none⟩) hb).trans c3; go_simp; first | done | with_reducible rfl)
              go_big_quiet_on)))
      refine wpQuiet_nil ?_
      intro uq hq
      go_wp2_with fail
      go_ret
      exact ⟨by rw [AT.out]; rfl, hq.1⟩
     ·have NX := hid (HNX.out (by rw [HCH.out, decide_eq_false hcn]; rfl))
      have hbe : (sc == n) = false := beq_false_of_ne hcn
      clear HCH HAT HNX HU hcn
      go_upto_region 4 with fail
      refine wp_region_class (C := fun u => Kept w [(w.heap.size, 26, (pA key A l.length cap))] u) (by kernel_rfl) (by kernel_rfl) hz.drew ?_
      iterate 16 (first
       | go_big_quiet_skip
       | (go_big_quiet_want
          go_big_quiet_op
          first
           | go_big_quiet_on
           | (apply Exists.intro
              refine ⟨fun u hu => ?_, ?_⟩
              ·first
                 | with_reducible rfl
                 | (go_at_call 159; exact (TB.out u hu.1).mono fun e w' h => ⟨h.1, hu.below h.2⟩)
                 | (obtain ⟨X0, Y0, -⟩ := hu.rd; have d0 := (hu.1.cell (p := ⟨b, off + k * 4, none⟩) hb).trans c0; have d1 := (hu.1.cell (p := ⟨b, off + k * 4 + 1, none⟩) hb).trans c1; have d2 := (hu.1.cell (p := ⟨b, off + k * 4 + 2, none⟩) hb).trans c2; have d3 := (hu.1.cell (p := ⟨b, off + k * 4 + 3, none⟩) hb).trans c3; go_simp; first | done | with_reducible rfl)
              go_big_quiet_on)))
      refine wpQuiet_nil ?_
      intro uq hq
      go_wp2_with fail
      go_roundw
      case rel => exact ⟨k + 1, by omega, by go_num, NX.out, hq⟩
      case measure => simp [intOf]; omega
  ·have hk' : k = S.length := by omega
   subst hk'
   have HX := hid (chosenOf_none (key := key) (l := l) (n := n) HU.out)
   clear HU
   go_wp2_with fail
   go_ret
   exact ⟨by rw [HX.out]; rfl, hz.1⟩
end Go.Proofs.YteopplldbcgjjaaGreatDoor.Mx

import Derived.Test.YteoijmejhdocdaaGreatDoorG05
import Derived.Test.YteoijmejhdocdaaGreatDoorG04
import Derived.Great.BuildSlice
import Derived.Test.YteoijmejhdocdaaGreatDoorG01
import Derived.Test.YteoijmejhdocdaaGreatDoorG03
import Derived.Test.YteoijmejhdocdaaGreatDoorG02
namespace Go.Proofs.YteoijmejhdocdaaGreatDoor.Mx
open Go.ChangeShapes Go.WideShapes Go.ChangeAt Go.RowKit
set_option linter.unusedVariables false
def flagN (b : Bool) : Int := if b then 1 else 0
def macRow (t : Tru) : List Int := [t.clock, t.epoch, t.cursor, t.read, t.written, t.nread, t.nwritten, flagN t.failed]
def macList (count : Int) (L : List Tru) : List Int := [3, count, (L.length : Int)] ++ L.flatMap macRow
noncomputable def macOf (key : Int) (l : List Int) (count : Int) (L : List Tru) : Int :=
  open Classical in if planOk key l then mixOf key (macList count L) else -1
def TruI (t : Tru) : Prop := I64 t.clock ∧ I64 t.epoch ∧ I64 t.cursor ∧ I64 t.read ∧ I64 t.written ∧ I64 t.nread ∧ I64 t.nwritten
def TrusI (L : List Tru) : Prop := ∀ i, i < L.length → TruI (L.getD i default)
theorem flagN_i64 (b : Bool) : I64 (flagN b) := by cases b <;> (unfold flagN I64; simp)
theorem I64s.append {l m : List Int} (h : I64s l) (h2 : I64s m) : I64s (l ++ m) := by
  intro i hi
  rw [List.getD_eq_getElem?_getD]
  rcases Nat.lt_or_ge i l.length with hl | hl
  · rw [List.getElem?_append_left hl, ← List.getD_eq_getElem?_getD]; exact h i hl
  · rw [List.getElem?_append_right hl, ← List.getD_eq_getElem?_getD]; exact h2 _ (by rw [List.length_append] at hi; omega)
theorem macRow_i64 {t : Tru} (h : TruI t) : I64s (macRow t) := by
  obtain ⟨a, b, c, d, e, f, g⟩ := h
  have hf := flagN_i64 t.failed
  exact I64s.cons a.1 a.2 (I64s.cons b.1 b.2 (I64s.cons c.1 c.2 (I64s.cons d.1 d.2 (I64s.cons e.1 e.2 (I64s.cons f.1 f.2 (I64s.cons g.1 g.2 (I64s.cons hf.1 hf.2 I64s.nil)))))))
theorem takeT_succ {L : List Tru} {k : Nat} (h : k < L.length) : (L.take (k + 1)).flatMap macRow = (L.take k).flatMap macRow ++ macRow (L.getD k default) := by
  rw [List.take_succ_eq_append_getElem h, List.flatMap_append, List.getD_eq_getElem?_getD, List.getElem?_eq_getElem h]; simp
theorem macRow_len (L : List Tru) : (L.flatMap macRow).length = L.length * 8 := by
  induction L with
  | nil => rfl
  | cons t L ih => rw [List.flatMap_cons, List.length_append, ih, List.length_cons]; show 8 + _ = _; omega
theorem Row.below {w w' : World} {base t : Nat} {v : Value} {zs : List Int} (h : Row w base t v zs) (hb : Below w.heap.size w w') : Row w' base t v zs :=
  ⟨h.1.kept (below_gb hb none) (by cases e : v.ownBlock with | none => exact .inl rfl | some k => exact .inr (by intro e2; cases e2)), h.2⟩
theorem Kept.grownO {b w w' : World} {L : List Box} {r : Option Nat} (h : Kept b L w) (hg : w.grownBy w' r) (hr : ∀ k, r = some k → b.heap.size ≤ k ∧ ∀ x ∈ L, x.1 ≠ k) : Kept b L w' :=
  ⟨h.1.trans ((gr_below (B := b.heap.size) hg h.1.size (fun k hk => (hr k hk).1))), fun x hx => ⟨(h.2 x hx).1, (h.2 x hx).2.grown hg (by intro e; exact (hr x.1 e.symm).2 x hx rfl)⟩⟩
theorem Row.lit (w : World) (base : Nat) (zs : List Int) (hb : base ≤ w.heap.size) (hm : zs.length ≤ maxLen) (hi : I64s zs) : Row (w.alloc (.cells (zs.map (Value.int .i64)).toArray 2)) base 2 (.slice (some ⟨w.heap.size, 0, none⟩) zs.length zs.length) zs :=
  ⟨⟨by simp, .inr ⟨w.heap.size, zs.length, (zs.map (Value.int .i64)).toArray, rfl, hb, heap_alloc_last w _, Nat.le_refl _, hm, by simp, by simp only [Nat.mul_one]; rw [List.take_of_length_le (by simp)]⟩⟩, hi⟩
theorem l1Flag_calls (b : Bool) (w : World) : Calls Tryz.prog 215 #[.bool b] w fun e w' => e = .returned (.int .i64 (flagN b)) ∧ w = w' := by
  cases b
  all_goals
    go_enter Tryz.func215, Tryz.ntmps215
    go_wp2
    go_ret
    exact ⟨rfl, rfl⟩
def MacC (b : World) (L : List Box) (base : Nat) (p : Value) (zs ys : List Int) (cs : Array Value) (D : Nat → Bool) (γ : Nat → Value) (u : World) : Prop :=
  Kept b L u ∧ base ≤ u.heap.size ∧ (D 19 = false → Row u base 2 p zs) ∧ (D 18 = true → D 19 = false → ∃ g, γ 18 = .slice (some ⟨g, 0, none⟩) 8 8 ∧ CellsAt u g 2 cs) ∧ (D 19 = true → Row u base 2 (γ 19) (zs ++ ys)) ∧ (D 19 = true → D 18 = true)
theorem MacC.loc {b u : World} {L : List Box} {base : Nat} {p : Value} {zs ys : List Int} {cs : Array Value} {D : Nat → Bool} {γ γ' : Nat → Value} (ha : ∀ i, D i = true → γ i = γ' i) (h : MacC b L base p zs ys cs D γ u) : MacC b L base p zs ys cs D γ' u := by
  obtain ⟨h1, h2, h3, h4, h5, h6⟩ := h
  refine ⟨h1, h2, h3, fun d e => ?_, fun d => ?_, h6⟩
  · rw [← ha _ d]; exact h4 d e
  · rw [← ha _ d]; exact h5 d
set_option maxRecDepth 20000 in
set_option maxHeartbeats 4000000 in
theorem specMac_calls (key count : Int) (A C : Option Addr) (l : List Int) (cap : Nat) (L : List Tru) (cap2 : Nat) (w : World) (hn : l.length ≤ maxLen) (hA : Ints w .i64 w.heap.size A l) (hN : L.length ≤ 1048576) (hC : Trs w w.heap.size C L) (hI : TrusI L) (hc0 : I64 count) :
    Calls Tryz.prog 152 #[.agg (pA key A l.length cap), .int .i64 count, .slice C L.length cap2] w fun e w' => e = .returned (.int .i64 (macOf key l count L)) ∧ Below w.heap.size w w' := by
  have K0 := Lib.hid (show Kept w [(w.heap.size, 26, (pA key A l.length cap))] _ from (Kept.refl w).put1 _ _ (pA key A l.length cap) rfl)
  have PO := Lib.hid (fun (u : World) (hb : Below w.heap.size w u) => specPlanOk_calls key A l cap u hn ((hA.below hb (Nat.le_refl _)).more hb.size))
  have HC := Lib.hid hC
  have HI := Lib.hid hI
  unfold macOf
  clear hA hC hn hI
  by_cases hp : planOk key l
  · rw [if_pos hp]
    rw [okB_yes hp] at PO
    clear hp
    go_enter Tryz.func152, Tryz.ntmps152
    go_wp2_with fail
    refine (PO.out _ K0.out.1).mono ?_; rintro e w1 ⟨rfl, b1⟩
    have h1 := K0.out.below b1
    have H1 := Lib.hid h1
    clear b1 K0
    obtain ⟨kc0, kf0, -⟩ := h1.rd
    have hs1 : w.heap.size + 1 ≤ w1.heap.size := h1.lt (x := (w.heap.size, 26, (pA key A l.length cap))) (by simp)
    have RW := Lib.hid (Row.lit w1 (w.heap.size + 1) [3, count, (L.length : Int)] hs1 (by simp [maxLen]) (I64s.cons (by omega) (by omega) (I64s.cons hc0.1 hc0.2 (I64s.cons (by omega) (by omega) I64s.nil))))
    clear h1 hc0
    go_wp2_with fail
    clear kc0 kf0
    go_loopw [7, 8] (fun p i wr => ∃ (k : Nat) (q : Value), q = p ∧ k ≤ L.length ∧ i = .int .i64 k ∧ Row wr (w.heap.size + 1) 2 p ([3, count, (L.length : Int)] ++ (L.take k).flatMap macRow) ∧ Kept w [(w.heap.size, 26, (pA key A l.length cap))] wr) (fun _ i _ => L.length - (intOf i).toNat)
    case atStart => exact ⟨0, _, rfl, Nat.zero_le _, rfl, RW.out, H1.out.below ((Below.refl _ _).alloc (Nat.le_refl _) _)⟩
    case round =>
      obtain ⟨k, p, rfl, hk, rfl, hrow, hz⟩ := hrel
      by_cases hlt : k < L.length
      · obtain ⟨b, off, rfl, hb, hc⟩ := HC.out.at_ hlt
        have hlt' : (k : Int) < L.length := by omega
        have hk0 : (0 : Int) ≤ k := by omega
        have hti := HI.out k hlt
        have HS := Lib.hid (takeT_succ hlt)
        have hln := macRow_len (L.take k)
        rw [List.length_take, Nat.min_eq_left hk] at hln
        have HL := Lib.hid hln
        clear hln
        generalize L.getD k default = t at hc hti HS
        generalize (L.take k).flatMap macRow = ms at hrow HS HL
        generalize hzs : [3, count, (L.length : Int)] ++ ms = zs at hrow
        have HZ := Lib.hid hzs
        have hzl : zs.length = 3 + k * 8 := by rw [← hzs, List.length_append, HL.out]; rfl
        clear hzs
        have HZL := Lib.hid hzl
        clear hzl
        have TI := Lib.hid hti
        clear hti
        have hs2 : w.heap.size + 1 ≤ wr.heap.size := hz.lt (x := (w.heap.size, 26, (pA key A l.length cap))) (by simp)
        obtain ⟨c0, c1, c2, c3, c4, c5, c6, c7⟩ := hc.below hz.1 hb
        go_upto_region 8 with fail
        clear c0 c1 c2 c3 c4 c5 c6 c7
        have hne : ∀ g, p.ownBlock = some g → w.heap.size + 1 ≤ g ∧ g < wr.heap.size := fun g hg => hrow.1.lt g hg
        have hz2 := hz.put1 wr.heap.size 94 (tR t) rfl
        have hr2 : Row (wr.alloc (.cells (tR t) 94)) (w.heap.size + 1) 2 p zs := hrow.below ((Below.refl _ _).alloc (Nat.le_refl _) _)
        have HM := Lib.hid (show ∀ γ, MacC w [(wr.heap.size, 94, (tR t)), (w.heap.size, 26, (pA key A l.length cap))] (w.heap.size + 1) p zs (macRow t) #[.int .i64 t.clock, .int .i64 t.epoch, .int .i64 t.cursor, .int .i64 t.read, .int .i64 t.written, .int .i64 t.nread, .int .i64 t.nwritten, .int .i64 (flagN t.failed)] (fun _ => false) γ (wr.alloc (.cells (tR t) 94)).drew from fun γ => ⟨hz2.drew, by simp; omega, fun _ => ⟨hr2.1.drew, hr2.2⟩, fun e => (by cases e), fun e => (by cases e), fun e => (by cases e)⟩)
        clear hrow hz hz2 hr2
        have hlf : L.length ≤ 1048576 := hN
        refine wp_region_free [false, false, false, false, false, false, false, false, false, false, false, false, false, false, false, false, false, true, true, true, false] (fun i v => (i = 17 → v = .int .i64 (flagN t.failed)) ∧ (i = 18 → ∃ g : Nat, v = .slice (some ⟨g, 0, none⟩) 8 8)) (fun D γ u => MacC w [(wr.heap.size, 94, (tR t)), (w.heap.size, 26, (pA key A l.length cap))] (w.heap.size + 1) p zs (macRow t) #[.int .i64 t.clock, .int .i64 t.epoch, .int .i64 t.cursor, .int .i64 t.read, .int .i64 t.written, .int .i64 t.nread, .int .i64 t.nwritten, .int .i64 (flagN t.failed)] D γ u) (by kernel_rfl) (by kernel_rfl) (fun γ => by kernel_rfl) (fun D γ γ' w ha h => h.loc ha) (fun i => ?inh) HM.out (fun γ hγ => ?_)
        case inh =>
          by_cases h1 : i = 17
          · subst h1; exact ⟨_, fun _ => rfl, fun e => by cases e⟩
          · exact ⟨.slice (some ⟨0, 0, none⟩) 8 8, fun e => absurd e h1, fun _ => ⟨0, rfl⟩⟩
        have g17 : γ 17 = .int .i64 (flagN t.failed) := (hγ 17 rfl).1 rfl
        obtain ⟨gb, g18⟩ := (hγ 18 rfl).2 rfl
        obtain ⟨vv, g19⟩ : ∃ v, v = γ 19 := ⟨_, rfl⟩
        apply Exists.intro
        refine ⟨fun D => ?_, ?_, ?_⟩
        · simp only [hushL, cond_true, cond_false, Nat.reduceAdd, g17, g18, ← g19]
          iterate 21 (first
            | go_big_quiet_skip
            | (go_big_quiet_want
               go_big_quiet_op
               first
                 | go_big_quiet_on
                 | (apply Exists.intro
                    refine ⟨fun u hu => ?_, ?_⟩
                    · first
                        | with_reducible rfl
                        | (obtain ⟨kc0, kf0, kc1, kf1, -⟩ := hu.1.rd; go_simp; first | done | with_reducible rfl)
                    go_big_quiet_on)))
          exact wpQuiet_nil rfl
        · simp only [freeOk, Nat.reduceAdd]
          refine ⟨fun D u hD hd hu => ?_, fun D u hD hd hu => ?_, fun D u hD hd hu => ?_, trivial⟩
          · refine steps_call ((l1Flag_calls t.failed u).mono fun e w' ⟨he, hw⟩ => ⟨_, he, ⟨fun _ => rfl, fun e => by cases e⟩, ?_⟩) rfl rfl rfl rfl (by kernel_rfl)
            subst hw
            exact MacC.loc (γ := γ) (D := setD D 17) (fun i hi => by unfold setG; by_cases h : i = 17; rotate_left; rw [if_neg h]; subst h; rw [if_pos rfl]; exact g17) ⟨hu.1, hu.2.1, fun e => hu.2.2.1 (by simpa [setD] using e), fun e1 e2 => hu.2.2.2.1 (by simpa [setD] using e1) (by simpa [setD] using e2), fun e => hu.2.2.2.2.1 (by simpa [setD] using e), fun e => by have := hu.2.2.2.2.2 (by simpa [setD] using e); simp [setD, this]⟩
          · have e2 : D 19 = false := by
              cases h19 : D 19 with
              | false => rfl
              | true => have := hu.2.2.2.2.2 h19; rw [hD] at this; cases this
            have hrow := hu.2.2.1 e2
            refine steps_build 24 2 8 1 8 (.int .i64 0) _ #[.int .i64 t.clock, .int .i64 t.epoch, .int .i64 t.cursor, .int .i64 t.read, .int .i64 t.written, .int .i64 t.nread, .int .i64 t.nwritten, .int .i64 (flagN t.failed)] rfl Tryz.underlying24 info_i64 (by omega) (by omega) (by simp [Instr.fill, go_sem]) ⟨⟨fun e => (by cases e), fun _ => ⟨_, rfl⟩⟩, ?_⟩
            have ha : Below u.heap.size u (u.alloc (.cells #[.int .i64 t.clock, .int .i64 t.epoch, .int .i64 t.cursor, .int .i64 t.read, .int .i64 t.written, .int .i64 t.nread, .int .i64 t.nwritten, .int .i64 (flagN t.failed)] 2)) := (Below.refl _ _).alloc (Nat.le_refl _) _
            exact ⟨hu.1.below ha, Nat.le_trans hu.2.1 ha.size, fun _ => hrow.below ha, fun _ _ => ⟨_, by unfold setG; rw [if_pos rfl], CellsAt.new u 2 #[.int .i64 t.clock, .int .i64 t.epoch, .int .i64 t.cursor, .int .i64 t.read, .int .i64 t.written, .int .i64 t.nread, .int .i64 t.nwritten, .int .i64 (flagN t.failed)]⟩, fun e => by (simp [setD, e2] at e), fun _ => by simp [setD]⟩
          · have dk := hd { on := 18, ground := Ground.data } (by simp) rfl rfl
            obtain ⟨g0, e1, hcg⟩ := hu.2.2.2.1 dk hD
            obtain rfl : gb = g0 := by rw [g18] at e1; simpa using e1
            have hrow := hu.2.2.1 hD
            have hnews := World.news_of_block (w := u) (B := gb) (cs := #[.int .i64 t.clock, .int .i64 t.epoch, .int .i64 t.cursor, .int .i64 t.read, .int .i64 t.written, .int .i64 t.nread, .int .i64 t.nwritten, .int .i64 (flagN t.failed)]) (t := 2) hcg
            refine steps_append _ _ 24 rfl (w.heap.size + 1) 2 1 8 zs.length (.int .i64 0) p (zs.map (Value.int .i64)) (some ⟨gb, 0, none⟩) 8 8 (#[.int .i64 t.clock, .int .i64 t.epoch, .int .i64 t.cursor, .int .i64 t.read, .int .i64 t.written, .int .i64 t.nread, .int .i64 t.nwritten, .int .i64 (flagN t.failed)] : Array Value).toList Tryz.underlying24 info_i64 rfl (by omega) rfl hrow.1 rfl rfl (fun j v hv => ⟨_, rfl, hnews j v hv⟩) (by intro v hv; simp at hv; rcases hv with rfl | rfl | rfl | rfl | rfl | rfl | rfl | rfl <;> rfl) (by rw [HZL.out]; unfold maxLen; omega) (by rw [HZL.out]; omega) hu.2.1 ?_
            intro v' w' hown hg _
            have hk2 := hu.1.grownO hg (fun g e => ⟨by have := (hne g e).1; omega, by intro y hy; simp at hy; rcases hy with rfl | rfl <;> (have := hne g e; simp; omega)⟩)
            exact ⟨⟨fun e => (by cases e), fun e => (by cases e)⟩, hk2, Nat.le_trans hu.2.1 hg.size, fun e => by (simp [setD] at e), fun _ e => by (simp [setD] at e), fun _ => ⟨by unfold setG; rw [if_pos rfl, List.length_append, List.map_append]; exact hown, I64s.append hrow.2 (macRow_i64 TI.out)⟩, fun _ => by simp [setD, dk]⟩
        · intro D u hD hu
          have hrw := hu.2.2.2.2.1 (hD 19 (by simp) rfl)
          rw [← g19] at hrw
          have hkp := hu.1.sub (L' := [(w.heap.size, 26, (pA key A l.length cap))]) (by intro y hy; simp at hy ⊢; right; exact hy)
          clear hu hD
          go_wp2_with fail
          go_roundw
          case rel => exact ⟨k + 1, _, rfl, by omega, by go_num, by have h := hrw; rw [← HZ.out] at h; rw [HS.out]; simpa [List.append_assoc] using h, hkp⟩
          case measure => simp [intOf]; omega
      · have hk' : k = L.length := by omega
        subst hk'
        have hr2 := hrow
        rw [List.take_length] at hr2
        obtain ⟨B, c, rfl, hI⟩ := hr2.reads
        have hlen : ([3, count, (L.length : Int)] ++ L.flatMap macRow).length = 3 + L.length * 8 := by rw [List.length_append, macRow_len]; rfl
        have MX := Lib.hid (fun u hI => specMix_calls key B ([3, count, (L.length : Int)] ++ L.flatMap macRow) c wr.heap.size u (by rw [hlen]; unfold maxLen; omega) hI hr2.2)
        rw [show mixOf key ([3, count, (L.length : Int)] ++ L.flatMap macRow) = mixOf key (macList count L) from rfl] at MX
        have HIN := Lib.hid hI
        have HZ := Lib.hid hz
        have hne : ¬ (L.length : Int) < L.length := by omega
        obtain ⟨mx, hmx⟩ : ∃ m, m = mixOf key (macList count L) := ⟨_, rfl⟩
        rw [← hmx] at MX
        have HMX := Lib.hid hmx
        clear hmx
        generalize ([3, count, (L.length : Int)] ++ L.flatMap macRow).length = zl at MX
        clear hrow hr2 hI
        obtain ⟨kc0, kf0, -⟩ := hz.rd
        clear hz
        go_wp2_with fail
        refine (MX.out _ HIN.out).mono ?_; rintro e w2 ⟨rfl, rfl⟩
        go_wp2_with fail
        go_ret
        exact ⟨by rw [← HMX.out]; rfl, HZ.out.1⟩
  · rw [if_neg hp]
    rw [okB_no hp] at PO
    clear hp
    go_enter Tryz.func152, Tryz.ntmps152
    go_wp2_with fail
    refine (PO.out _ K0.out.1).mono ?_; rintro e w1 ⟨rfl, b1⟩
    have h1 := K0.out.below b1
    clear b1 K0
    go_wp2_with fail
    go_ret
    exact ⟨rfl, h1.1⟩
theorem szInt64S_no (A : Option Addr) (n cap : Nat) (w : World) (hn : n ≤ maxLen) (h : 1048576 < n) :
    Calls Tryz.prog 173 #[.slice A n cap, .int .i64 1048576] w fun e w' => e = .returned (.int .i64 (-1)) ∧ w = w' := by
  unfold maxLen at hn
  have hs : (1048576 : Int) - n < 0 := by omega
  go_enter Tryz.func173, Tryz.ntmps173
  go_wp2
  go_ret
  exact ⟨rfl, rfl⟩
theorem szInt64S_yes (A : Option Addr) (n cap : Nat) (w : World) (h : n ≤ 1048576) :
    Calls Tryz.prog 173 #[.slice A n cap, .int .i64 1048576] w fun e w' => e = .returned (.int .i64 (1048576 - n)) ∧ w = w' := by
  have hs : ¬ (1048576 : Int) - n < 0 := by omega
  go_enter Tryz.func173, Tryz.ntmps173
  go_wp2
  go_ret
  exact ⟨rfl, rfl⟩
theorem szPlan_no (key : Int) (A : Option Addr) (n cap : Nat) (w : World) (hn : n ≤ maxLen) (h : 1048576 < n) :
    Calls Tryz.prog 101 #[.agg (pA key A n cap), .int .i64 1048576] w fun e w' => e = .returned (.int .i64 (-1)) ∧ Below w.heap.size w w' := by
  have C := Lib.hid (fun w => szInt64S_no A n cap w hn h)
  clear hn h
  go_enter Tryz.func101, Tryz.ntmps101
  go_wp2_with fail
  refine (C.out _).mono ?_; rintro e w' ⟨rfl, rfl⟩
  go_wp2_with fail
  go_ret
  exact ⟨rfl, box_below w _⟩
theorem szPlan_yes (key : Int) (A : Option Addr) (n cap : Nat) (w : World) (h : n ≤ 1048576) :
    Calls Tryz.prog 101 #[.agg (pA key A n cap), .int .i64 1048576] w fun e w' => e = .returned (.int .i64 (1048576 - n)) ∧ Below w.heap.size w w' := by
  have C := Lib.hid (fun w => szInt64S_yes A n cap w h)
  have hs : ¬ (1048576 : Int) - n < 0 := by omega
  clear h
  go_enter Tryz.func101, Tryz.ntmps101
  go_wp2_with fail
  refine (C.out _).mono ?_; rintro e w' ⟨rfl, rfl⟩
  go_wp2_with fail
  go_ret
  exact ⟨rfl, box_below w _⟩
theorem eqPlan_same (key : Int) (A C : Option Addr) (l : List Int) (cap cap' : Nat) (w : World) (hn : l.length ≤ 1048576) (hA : Ints w .i64 w.heap.size A l) (hC : Ints w .i64 w.heap.size C l) :
    Calls Tryz.prog 109 #[.agg (pA key A l.length cap), .agg (pA key C l.length cap')] w fun e w' => e = .returned (.bool true) ∧ Below w.heap.size w w' := by
  have E := Lib.hid (fun w hA hC => eqInt64S_same A C l cap cap' w hn hA hC)
  have HA := Lib.hid ((hA.boxed (.cells (pA key A l.length cap) 26)).boxed (.cells (pA key C l.length cap') 26))
  have HC := Lib.hid ((hC.boxed (.cells (pA key A l.length cap) 26)).boxed (.cells (pA key C l.length cap') 26))
  clear hA hC
  go_enter Tryz.func109, Tryz.ntmps109
  go_wp2_with fail
  refine (E.out _ HA.out HC.out).mono ?_; rintro e w1 ⟨rfl, b1⟩
  have B1 := Lib.hid ((((Below.refl w.heap.size w).alloc (Nat.le_refl _) (.cells (pA key A l.length cap) 26)).alloc (by simp) (.cells (pA key C l.length cap') 26)).trans (b1.mono (by simp; omega)))
  clear b1
  go_wp2_with fail
  go_ret
  exact ⟨rfl, B1.out⟩
set_option maxHeartbeats 2000000 in
theorem toTrust_calls (t0 t1 t2 t3 t4 t5 t6 : Int) (t7 : Bool) (w : World) :
    Calls Tryz.prog 176 #[.agg (tA t0 t1 t2 t3 t4 t5 t6 t7)] w fun e w' => e = .returned (.agg (tA t0 t1 t2 t3 t4 t5 t6 t7)) ∧ Below w.heap.size w w' := by
  go_enter Tryz.func176, Tryz.ntmps176
  go_wp2_with fail
  exact bodyPost_ret (v := .agg (tA t0 t1 t2 t3 t4 t5 t6 t7)) (by simp [results, Tryz.results176, go_sem]) rfl ⟨rfl, (((Below.refl _ _).alloc (Nat.le_refl _) _).alloc (by simp) _).alloc (by simp; omega) _⟩
set_option maxHeartbeats 2000000 in
theorem eqTrust_same (t0 t1 t2 t3 t4 t5 t6 : Int) (t7 : Bool) (w : World) :
    Calls Tryz.prog 180 #[.agg (tA t0 t1 t2 t3 t4 t5 t6 t7), .agg (tA t0 t1 t2 t3 t4 t5 t6 t7)] w fun e w' => e = .returned (.bool true) ∧ Below w.heap.size w w' := by
  have hk := ((Kept.refl w).new 94 (tA t0 t1 t2 t3 t4 t5 t6 t7)).new 94 (tA t0 t1 t2 t3 t4 t5 t6 t7)
  rw [show (w.alloc (.cells (tA t0 t1 t2 t3 t4 t5 t6 t7) 94)).heap.size = w.heap.size + 1 by simp] at hk
  have HK := Lib.hid hk
  clear hk
  have n0 : (t0 != t0) = false := by simp
  have n1 : (t1 != t1) = false := by simp
  have n2 : (t2 != t2) = false := by simp
  have n3 : (t3 != t3) = false := by simp
  have n4 : (t4 != t4) = false := by simp
  have n5 : (t5 != t5) = false := by simp
  have n6 : (t6 != t6) = false := by simp
  have n7 : (t7 != t7) = false := by simp
  go_enter Tryz.func180, Tryz.ntmps180
  go_wp2_with fail
  go_ret
  exact ⟨rfl, HK.out.1⟩
theorem isEpoch_yes (e_ : Int) (w : World) (h : 0 ≤ e_ ∧ e_ ≤ 1000) : Calls Tryz.prog 244 #[.int .i64 e_] w fun e w' => e = .returned (.bool true) ∧ w = w' := by
  obtain ⟨h0, h1⟩ := h
  go_enter Tryz.func244, Tryz.ntmps244
  go_wp2_with fail
  go_ret
  exact ⟨rfl, rfl⟩
theorem isEpoch_no (e_ : Int) (w : World) (h : ¬ (0 ≤ e_ ∧ e_ ≤ 1000)) : Calls Tryz.prog 244 #[.int .i64 e_] w fun e w' => e = .returned (.bool false) ∧ w = w' := by
  by_cases h0 : 0 ≤ e_
  · have h1 : ¬ e_ ≤ 1000 := by omega
    have hd : decide (e_ ≤ 1000) = false := decide_eq_false h1
    clear h
    go_enter Tryz.func244, Tryz.ntmps244
    go_wp2_with fail
    go_ret
    exact ⟨rfl, rfl⟩
  · have hd : decide (0 ≤ e_) = false := decide_eq_false h0
    clear h
    go_enter Tryz.func244, Tryz.ntmps244
    go_wp2_with fail
    go_ret
    exact ⟨rfl, rfl⟩
theorem isSumP_yes (s : Int) (w : World) (h : isSumP s) : Calls Tryz.prog 261 #[.int .i64 s] w fun e w' => e = .returned (.bool true) ∧ w = w' := isSum_yes s w h.1 h.2
theorem isSumP_no (s : Int) (w : World) (h : ¬ isSumP s) : Calls Tryz.prog 261 #[.int .i64 s] w fun e w' => e = .returned (.bool false) ∧ w = w' := isSum_no s w (by unfold isSumP at h; omega)
def sumsP (t2 t3 t4 t5 t6 : Int) : Prop := (t2 = 0 → t5 = 0 ∧ t6 = 0) ∧ isSumP t3 ∧ isSumP t4 ∧ isSumP t5 ∧ isSumP t6
instance (t2 t3 t4 t5 t6 : Int) : Decidable (sumsP t2 t3 t4 t5 t6) := inferInstanceAs (Decidable (_ ∧ _))
set_option maxRecDepth 20000 in
set_option maxHeartbeats 4000000 in
theorem sumsOk_calls (p : Nat) (t0 t1 t2 t3 t4 t5 t6 : Int) (t7 : Bool) (w : World) (hp : CellsAt w p 94 (tA t0 t1 t2 t3 t4 t5 t6 t7)) :
    Calls Tryz.prog 245 #[.pointer (some ⟨p, 0, none⟩)] w fun e w' => e = .returned (.bool (decide (sumsP t2 t3 t4 t5 t6))) ∧ w = w' := by
  have kc : ∀ i, w.cell? ⟨p, i, none⟩ = (tA t0 t1 t2 t3 t4 t5 t6 t7)[i]? := hp.cell
  clear hp
  by_cases h2 : t2 = 0
  · subst h2
    by_cases h5 : t5 = 0
    · subst h5
      by_cases h6 : t6 = 0
      · subst h6
        have s5 := Lib.hid (show isSumP 0 by decide)
        have s6 := Lib.hid (show isSumP 0 by decide)
        have C5 := Lib.hid (fun w => isSumP_yes 0 w (by decide))
        by_cases s3_ : isSumP t3
        · have s3 := Lib.hid s3_; have C3 := Lib.hid (fun w => isSumP_yes t3 w s3_); clear s3_
          by_cases s4_ : isSumP t4
          · have s4 := Lib.hid s4_; have C4 := Lib.hid (fun w => isSumP_yes t4 w s4_); clear s4_
            rw [decide_eq_true (show sumsP _ _ _ _ _ from ⟨fun _ => ⟨rfl, rfl⟩, s3.out, s4.out, s5.out, s6.out⟩)]
            go_enter Tryz.func245, Tryz.ntmps245
            go_wp2_with fail
            refine (C3.out _).mono ?_; rintro e w' ⟨rfl, rfl⟩
            go_wp2_with fail
            refine (C4.out _).mono ?_; rintro e w' ⟨rfl, rfl⟩
            go_wp2_with fail
            refine (C5.out _).mono ?_; rintro e w' ⟨rfl, rfl⟩
            go_wp2_with fail
            refine (C5.out _).mono ?_; rintro e w' ⟨rfl, rfl⟩
            go_wp2_with fail
            go_ret
            exact ⟨rfl, rfl⟩
          · have s4 := Lib.hid s4_; have C4 := Lib.hid (fun w => isSumP_no t4 w s4_); clear s4_
            rw [decide_eq_false (show ¬ sumsP _ _ _ _ _ from fun h => s4.out h.2.2.1)]
            go_enter Tryz.func245, Tryz.ntmps245
            go_wp2_with fail
            refine (C3.out _).mono ?_; rintro e w' ⟨rfl, rfl⟩
            go_wp2_with fail
            refine (C4.out _).mono ?_; rintro e w' ⟨rfl, rfl⟩
            go_wp2_with fail
            go_ret
            exact ⟨rfl, rfl⟩
        · have s3 := Lib.hid s3_; have C3 := Lib.hid (fun w => isSumP_no t3 w s3_); clear s3_
          rw [decide_eq_false (show ¬ sumsP _ _ _ _ _ from fun h => s3.out h.2.1)]
          go_enter Tryz.func245, Tryz.ntmps245
          go_wp2_with fail
          refine (C3.out _).mono ?_; rintro e w' ⟨rfl, rfl⟩
          go_wp2_with fail
          go_ret
          exact ⟨rfl, rfl⟩
      · have n6 : (t6 != 0) = true := by simpa using h6
        have N6 := Lib.hid h6
        clear h6
        rw [decide_eq_false (show ¬ sumsP _ _ _ _ _ from fun h => N6.out (h.1 rfl).2)]
        go_enter Tryz.func245, Tryz.ntmps245
        go_wp2_with fail
        go_ret
        exact ⟨rfl, rfl⟩
    · have n5 : (t5 != 0) = true := by simpa using h5
      have N5 := Lib.hid h5
      clear h5
      rw [decide_eq_false (show ¬ sumsP _ _ _ _ _ from fun h => N5.out (h.1 rfl).1)]
      go_enter Tryz.func245, Tryz.ntmps245
      go_wp2_with fail
      go_ret
      exact ⟨rfl, rfl⟩
  · have n2 : (t2 == 0) = false := by simpa using h2
    have N2 := Lib.hid h2
    clear h2
    by_cases s3_ : isSumP t3
    · have s3 := Lib.hid s3_; have C3 := Lib.hid (fun w => isSumP_yes t3 w s3_); clear s3_
      by_cases s4_ : isSumP t4
      · have s4 := Lib.hid s4_; have C4 := Lib.hid (fun w => isSumP_yes t4 w s4_); clear s4_
        by_cases s5_ : isSumP t5
        · have s5 := Lib.hid s5_; have C5 := Lib.hid (fun w => isSumP_yes t5 w s5_); clear s5_
          by_cases s6_ : isSumP t6
          · have s6 := Lib.hid s6_; have C6 := Lib.hid (fun w => isSumP_yes t6 w s6_); clear s6_
            rw [decide_eq_true (show sumsP _ _ _ _ _ from ⟨fun h => absurd h N2.out, s3.out, s4.out, s5.out, s6.out⟩)]
            go_enter Tryz.func245, Tryz.ntmps245
            go_wp2_with fail
            refine (C3.out _).mono ?_; rintro e w' ⟨rfl, rfl⟩
            go_wp2_with fail
            refine (C4.out _).mono ?_; rintro e w' ⟨rfl, rfl⟩
            go_wp2_with fail
            refine (C5.out _).mono ?_; rintro e w' ⟨rfl, rfl⟩
            go_wp2_with fail
            refine (C6.out _).mono ?_; rintro e w' ⟨rfl, rfl⟩
            go_wp2_with fail
            go_ret
            exact ⟨rfl, rfl⟩
          · have s6 := Lib.hid s6_; have C6 := Lib.hid (fun w => isSumP_no t6 w s6_); clear s6_
            rw [decide_eq_false (show ¬ sumsP _ _ _ _ _ from fun h => s6.out h.2.2.2.2)]
            go_enter Tryz.func245, Tryz.ntmps245
            go_wp2_with fail
            refine (C3.out _).mono ?_; rintro e w' ⟨rfl, rfl⟩
            go_wp2_with fail
            refine (C4.out _).mono ?_; rintro e w' ⟨rfl, rfl⟩
            go_wp2_with fail
            refine (C5.out _).mono ?_; rintro e w' ⟨rfl, rfl⟩
            go_wp2_with fail
            refine (C6.out _).mono ?_; rintro e w' ⟨rfl, rfl⟩
            go_wp2_with fail
            go_ret
            exact ⟨rfl, rfl⟩
        · have s5 := Lib.hid s5_; have C5 := Lib.hid (fun w => isSumP_no t5 w s5_); clear s5_
          rw [decide_eq_false (show ¬ sumsP _ _ _ _ _ from fun h => s5.out h.2.2.2.1)]
          go_enter Tryz.func245, Tryz.ntmps245
          go_wp2_with fail
          refine (C3.out _).mono ?_; rintro e w' ⟨rfl, rfl⟩
          go_wp2_with fail
          refine (C4.out _).mono ?_; rintro e w' ⟨rfl, rfl⟩
          go_wp2_with fail
          refine (C5.out _).mono ?_; rintro e w' ⟨rfl, rfl⟩
          go_wp2_with fail
          go_ret
          exact ⟨rfl, rfl⟩
      · have s4 := Lib.hid s4_; have C4 := Lib.hid (fun w => isSumP_no t4 w s4_); clear s4_
        rw [decide_eq_false (show ¬ sumsP _ _ _ _ _ from fun h => s4.out h.2.2.1)]
        go_enter Tryz.func245, Tryz.ntmps245
        go_wp2_with fail
        refine (C3.out _).mono ?_; rintro e w' ⟨rfl, rfl⟩
        go_wp2_with fail
        refine (C4.out _).mono ?_; rintro e w' ⟨rfl, rfl⟩
        go_wp2_with fail
        go_ret
        exact ⟨rfl, rfl⟩
    · have s3 := Lib.hid s3_; have C3 := Lib.hid (fun w => isSumP_no t3 w s3_); clear s3_
      rw [decide_eq_false (show ¬ sumsP _ _ _ _ _ from fun h => s3.out h.2.1)]
      go_enter Tryz.func245, Tryz.ntmps245
      go_wp2_with fail
      refine (C3.out _).mono ?_; rintro e w' ⟨rfl, rfl⟩
      go_wp2_with fail
      go_ret
      exact ⟨rfl, rfl⟩
def suitsP (n t0 t1 t2 t3 t4 t5 t6 : Int) : Prop := isTm t0 ∧ (0 ≤ t1 ∧ t1 ≤ 1000) ∧ 0 ≤ t2 ∧ t2 < n ∧ sumsP t2 t3 t4 t5 t6
instance (n t0 t1 t2 t3 t4 t5 t6 : Int) : Decidable (suitsP n t0 t1 t2 t3 t4 t5 t6) := inferInstanceAs (Decidable (_ ∧ _))
set_option maxRecDepth 20000 in
set_option maxHeartbeats 4000000 in
theorem suits_calls (p : Nat) (n t0 t1 t2 t3 t4 t5 t6 : Int) (t7 : Bool) (w : World) (hp : CellsAt w p 94 (tA t0 t1 t2 t3 t4 t5 t6 t7)) :
    Calls Tryz.prog 217 #[.pointer (some ⟨p, 0, none⟩), .int .i64 n] w fun e w' => e = .returned (.bool (decide (suitsP n t0 t1 t2 t3 t4 t5 t6))) ∧ w = w' := by
  have kc : ∀ i, w.cell? ⟨p, i, none⟩ = (tA t0 t1 t2 t3 t4 t5 t6 t7)[i]? := hp.cell
  by_cases h0 : isTm t0
  · have H0 := Lib.hid h0; have CT := Lib.hid (fun w => isTime_yes t0 w h0); clear h0
    by_cases h1 : 0 ≤ t1 ∧ t1 ≤ 1000
    · have H1 := Lib.hid h1; have CE := Lib.hid (fun w => isEpoch_yes t1 w h1); clear h1
      by_cases h2 : 0 ≤ t2
      · by_cases h3 : t2 < n
        · have hd0 : decide (0 ≤ t2) = true := decide_eq_true h2
          have hd1 : decide (t2 < n) = true := decide_eq_true h3
          have H2 := Lib.hid h2; have H3 := Lib.hid h3
          have CS := Lib.hid (fun u (h : CellsAt u p 94 (tA t0 t1 t2 t3 t4 t5 t6 t7)) => sumsOk_calls p t0 t1 t2 t3 t4 t5 t6 t7 u h)
          have HP := Lib.hid hp
          clear hp
          by_cases h4 : sumsP t2 t3 t4 t5 t6
          · rw [decide_eq_true h4] at CS
            have H4 := Lib.hid h4
            clear h4
            rw [decide_eq_true (show suitsP _ _ _ _ _ _ _ _ from ⟨H0.out, H1.out, H2.out, H3.out, H4.out⟩)]
            go_enter Tryz.func217, Tryz.ntmps217
            go_wp2_with fail
            refine (CT.out _).mono ?_; rintro e w' ⟨rfl, rfl⟩
            go_wp2_with fail
            refine (CE.out _).mono ?_; rintro e w' ⟨rfl, rfl⟩
            go_wp2_with fail
            refine (CS.out _ HP.out).mono ?_; rintro e w' ⟨rfl, rfl⟩
            go_wp2_with fail
            go_ret
            exact ⟨rfl, rfl⟩
          · rw [decide_eq_false h4] at CS
            have H4 := Lib.hid h4
            clear h4
            rw [decide_eq_false (show ¬ suitsP _ _ _ _ _ _ _ _ from fun h => H4.out h.2.2.2.2)]
            go_enter Tryz.func217, Tryz.ntmps217
            go_wp2_with fail
            refine (CT.out _).mono ?_; rintro e w' ⟨rfl, rfl⟩
            go_wp2_with fail
            refine (CE.out _).mono ?_; rintro e w' ⟨rfl, rfl⟩
            go_wp2_with fail
            refine (CS.out _ HP.out).mono ?_; rintro e w' ⟨rfl, rfl⟩
            go_wp2_with fail
            go_ret
            exact ⟨rfl, rfl⟩
        · have hd0 : decide (0 ≤ t2) = true := decide_eq_true h2
          have hd1 : decide (t2 < n) = false := decide_eq_false h3
          have H3 := Lib.hid h3
          rw [decide_eq_false (show ¬ suitsP _ _ _ _ _ _ _ _ from fun h => H3.out h.2.2.2.1)]
          go_enter Tryz.func217, Tryz.ntmps217
          go_wp2_with fail
          refine (CT.out _).mono ?_; rintro e w' ⟨rfl, rfl⟩
          go_wp2_with fail
          refine (CE.out _).mono ?_; rintro e w' ⟨rfl, rfl⟩
          go_wp2_with fail
          go_ret
          exact ⟨rfl, rfl⟩
      · have hd0 : decide (0 ≤ t2) = false := decide_eq_false h2
        have H3 := Lib.hid h2
        rw [decide_eq_false (show ¬ suitsP _ _ _ _ _ _ _ _ from fun h => H3.out h.2.2.1)]
        go_enter Tryz.func217, Tryz.ntmps217
        go_wp2_with fail
        refine (CT.out _).mono ?_; rintro e w' ⟨rfl, rfl⟩
        go_wp2_with fail
        refine (CE.out _).mono ?_; rintro e w' ⟨rfl, rfl⟩
        go_wp2_with fail
        go_ret
        exact ⟨rfl, rfl⟩
    · have H1 := Lib.hid h1; have CE := Lib.hid (fun w => isEpoch_no t1 w h1); clear h1
      rw [decide_eq_false (show ¬ suitsP _ _ _ _ _ _ _ _ from fun h => H1.out h.2.1)]
      go_enter Tryz.func217, Tryz.ntmps217
      go_wp2_with fail
      refine (CT.out _).mono ?_; rintro e w' ⟨rfl, rfl⟩
      go_wp2_with fail
      refine (CE.out _).mono ?_; rintro e w' ⟨rfl, rfl⟩
      go_wp2_with fail
      go_ret
      exact ⟨rfl, rfl⟩
  · have H0 := Lib.hid h0; have CT := Lib.hid (fun w => isTime_no t0 w h0); clear h0
    rw [decide_eq_false (show ¬ suitsP _ _ _ _ _ _ _ _ from fun h => H0.out h.1)]
    go_enter Tryz.func217, Tryz.ntmps217
    go_wp2_with fail
    refine (CT.out _).mono ?_; rintro e w' ⟨rfl, rfl⟩
    go_wp2_with fail
    go_ret
    exact ⟨rfl, rfl⟩
set_option maxRecDepth 20000 in
set_option maxHeartbeats 4000000 in
theorem implTrustOk_calls (key x : Int) (A : Option Addr) (l : List Int) (cap : Nat) (t0 t1 t2 t3 t4 t5 t6 : Int) (t7 : Bool) (w : World) (hn : l.length ≤ 1048576) (hcap : l.length ≤ cap) (hA : Ints w .i64 w.heap.size A l) :
    Calls Tryz.prog 153 #[.agg (pA key A l.length cap), .int .i64 x, .agg (tA t0 t1 t2 t3 t4 t5 t6 t7)] w fun e w' => e = .returned (.bool (trustB key l x ⟨t0, t1, t2, t3, t4, t5, t6, t7⟩)) ∧ Below w.heap.size w w' := by
  have hm : l.length ≤ maxLen := by unfold maxLen; omega
  have F0 := fun (u : World) (hb : Below w.heap.size w u) => firstOf_calls key x A l cap u hm hcap ((hA.below hb (Nat.le_refl _)).more hb.size)
  by_cases hf : 0 ≤ firstOf key l x
  · have hpr : planOk key l ∧ 0 ≤ x ∧ x < l.length := by
      refine Classical.byContradiction fun h => ?_
      unfold firstOf at hf
      rw [if_neg h] at hf
      omega
    obtain ⟨r, rfl⟩ : ∃ r : Nat, x = r := ⟨x.toNat, by omega⟩
    have hr : r < l.length := by omega
    obtain ⟨bb, oo, rfl, hbb, hcc⟩ := hA r hr
    have K0 := Lib.hid (show Kept w [(w.heap.size + 1, 94, (tA t0 t1 t2 t3 t4 t5 t6 t7)), (w.heap.size, 26, (pA key (some ⟨bb, oo, none⟩) l.length cap))] _ from (((Kept.refl w).put1 _ _ (pA key (some ⟨bb, oo, none⟩) l.length cap) rfl).put1 _ _ (tA t0 t1 t2 t3 t4 t5 t6 t7) (by simp)))
    have hd : decide (0 ≤ firstOf key l (r : Int)) = true := decide_eq_true hf
    have hi1 : (r : Int) < l.length := by omega
    have hi0 : (0 : Int) ≤ r := by omega
    have HC := Lib.hid (fun (u : World) (hb : Below w.heap.size w u) => (hb.cell (p := ⟨bb, oo + r, none⟩) hbb).trans hcc)
    have ev : l.getD ((r : Int)).toNat 0 = l.getD r 0 := by rw [Int.toNat_natCast]
    have HT := Lib.hid (show trustB key l (r : Int) ⟨t0, t1, t2, t3, t4, t5, t6, t7⟩ = decide (suitsP (l.getD r 0) t0 t1 t2 t3 t4 t5 t6) from by
      unfold trustB
      congr 1
      unfold trustOk suitsP sumsP
      rw [ev]
      simp only [eq_iff_iff]
      constructor
      · rintro ⟨_, _, a, b, ⟨c, d⟩, e, f⟩; exact ⟨a, b, c, by omega, e, f⟩
      · rintro ⟨a, b, c, d, e, f⟩; exact ⟨hpr.1, hpr.2, a, b, ⟨c, by omega⟩, e, f⟩)
    have SC := Lib.hid (fun u (h : CellsAt u (w.heap.size + 1) 94 (tA t0 t1 t2 t3 t4 t5 t6 t7)) => suits_calls (w.heap.size + 1) (l.getD r 0) t0 t1 t2 t3 t4 t5 t6 t7 u h)
    have F := Lib.hid F0
    generalize firstOf key l (r : Int) = f at F hd
    generalize l.getD r 0 = v at HC SC HT
    generalize decide (suitsP v t0 t1 t2 t3 t4 t5 t6) = z at SC HT
    clear hf hpr hr hcc ev hA F0 hm
    go_enter Tryz.func153, Tryz.ntmps153
    go_wp2_with fail
    refine (F.out _ K0.out.1).mono ?_; rintro e u1 ⟨rfl, hb⟩
    have hk1 := K0.out.below hb
    have cc := HC.out _ hk1.1
    have kz := hk1.at_ (p := w.heap.size + 1) (t := 94) (cs := (tA t0 t1 t2 t3 t4 t5 t6 t7)) (by simp)
    have KZ := Lib.hid kz
    have BL := Lib.hid hk1.1
    obtain ⟨kc0, kf0, kc1, kf1, -⟩ := hk1.rd
    clear hb hk1 kz F K0
    go_wp2_with fail
    refine (SC.out _ KZ.out).mono ?_; rintro e u2 ⟨rfl, rfl⟩
    go_wp2_with fail
    go_ret
    exact ⟨by rw [HT.out]; rfl, BL.out⟩
  · have K0 := Lib.hid (show Kept w [(w.heap.size + 1, 94, (tA t0 t1 t2 t3 t4 t5 t6 t7)), (w.heap.size, 26, (pA key A l.length cap))] _ from (((Kept.refl w).put1 _ _ (pA key A l.length cap) rfl).put1 _ _ (tA t0 t1 t2 t3 t4 t5 t6 t7) (by simp)))
    have hd : decide (0 ≤ firstOf key l x) = false := decide_eq_false hf
    have HT := Lib.hid (show trustB key l x ⟨t0, t1, t2, t3, t4, t5, t6, t7⟩ = false from trustB_no (fun h => hf (by
      have hp := h.1; have hx := h.2.1
      unfold firstOf
      rw [if_pos ⟨hp, hx⟩]
      exact (upTo_bd hp.2.2.1 (k := x.toNat) (by omega)).1)))
    have F := Lib.hid F0
    generalize firstOf key l x = f at F hd
    clear hf hA F0 hm
    go_enter Tryz.func153, Tryz.ntmps153
    go_wp2_with fail
    refine (F.out _ K0.out.1).mono ?_; rintro e u1 ⟨rfl, hb⟩
    have BL := Lib.hid (K0.out.below hb).1
    clear hb F K0
    go_wp2_with fail
    go_ret
    exact ⟨by rw [HT.out]; rfl, BL.out⟩
end Go.Proofs.YteoijmejhdocdaaGreatDoor.Mx

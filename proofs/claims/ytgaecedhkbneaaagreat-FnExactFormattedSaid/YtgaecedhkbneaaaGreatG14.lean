import Derived.Test.YtgaecedhkbneaaaGreatG13
import Derived.Test.YtgaecedhkbneaaaGreatG02
import Derived.Test.YtgaecedhkbneaaaGreatG06
import Derived.Test.YtgaecedhkbneaaaGreatG05
namespace Go.Proofs.YtgaecedhkbneaaaGreat.Mx
open Go.ChangeShapes Go.WideShapes Go.ChangeAt Go.RowKit
set_option linter.unusedVariables false
theorem formatG_short (key : Int) (l : List Int) : QShort (formatG key l) := by
  unfold formatG
  split
  · rename_i h
    intro y e
    injection e with e
    exact e ▸ (formatVol_inv h).short
  · intro y e; cases e
def AnsFormatted (E : World → Prop) : Prop := ∀ (key : Int) (A : Option Addr) (l : List Int) (cap : Nat) (w : World), l.length ≤ cap → l.length ≤ 1048576 → Ints w .i64 w.heap.size A l → E w →
  Calls Tryz.prog 7 #[.agg #[.int .i64 key, .slice A l.length cap]] w (Ans1 w (formatG key l))
theorem markPlan_part (key : Int) (lo hi g : Nat) (l : List Int) (u : World) (hn : l.length ≤ 1048576) (hh : g < hi) (h : PartI lo u g l) :
    Calls Tryz.prog 10 #[.agg #[.int .i64 key, .slice (some ⟨g, 0, none⟩) l.length l.length], .int .i64 1] u fun e w' => e = .returned (.int .i64 (1 + l.length)) ∧ Mid lo hi u w' := by
  obtain ⟨h0, -, cs, h1, h2⟩ := h
  refine markPlan_via key (some ⟨g, 0, none⟩) l.length l.length 1 (1 + l.length) u (fun w' => Mid lo hi u w') ?_
  have al : Below u.heap.size u (u.alloc (.cells #[.int .i64 key, .slice (some ⟨g, 0, none⟩) l.length l.length] 26)) := (Below.refl u.heap.size u).alloc (Nat.le_refl _) _
  refine (markInt64G_calls g l.length l.length 1 _ cs _ hn (by omega) (by omega) (h1.below al h1.lt) h2).mono ?_
  rintro e w1 ⟨rfl, -, h3, -⟩
  exact ⟨rfl, (Mid.of_below al).trans (Mid.of h3 (fun k e => by injection e with e; omega))⟩
set_option maxRecDepth 20000 in
set_option maxHeartbeats 16000000 in
theorem formattedLaw_calls (E : World → Prop) (H : AnsFormatted E) (key : Int) (A : Option Addr) (l : List Int) (cap : Nat) (w : World) (hE : ∀ u, Below w.heap.size w u → E u) (hn : l.length ≤ maxLen) (hA : Ints w .i64 w.heap.size A l) :
    Calls Tryz.prog 3 #[.agg #[.int .i64 key, .slice A l.length cap]] w fun e w' => e = .returned (.bool true) ∧ Below w.heap.size w w' := by
  have K0 := Lib.hid (show Kept w [(w.heap.size, 24, #[.int .i64 key, .slice A l.length cap])] _ from ((Kept.refl w).put1 _ _ #[.int .i64 key, .slice A l.length cap] rfl))
  by_cases hs : 1048576 < l.length
  · have S := Lib.hid (fun w => szPlan_no key A l.length cap w hn hs)
    clear hA hs H hE
    go_enter Tryz.func3, Tryz.ntmps3
    go_wp2_with fail
    refine (S.out _).mono ?_; rintro e w1 ⟨rfl, b1⟩
    have B1 := Lib.hid (K0.out.below b1).1
    clear b1
    go_wp2_with fail
    go_ret
    exact ⟨rfl, B1.out⟩
  have hs' : l.length ≤ 1048576 := by omega
  have S := Lib.hid (fun w => szPlan_yes key A l.length cap w hs')
  have hg : ¬ (1048576 : Int) - l.length < 0 := by omega
  have T := Lib.hid (fun (base : Nat) (u : World) (hb : Below w.heap.size w u) (hl : base ≤ u.heap.size) => toInts_part key A l cap u base hs' hl ((hA.below hb (Nat.le_refl _)).more hb.size))
  have SP := Lib.hid (fun (G : Option Addr) (u : World) (h : Ints u .i64 u.heap.size G l) => formattedG_calls key G l l.length u (Nat.le_refl _) hn h)
  have CI := Lib.hid (fun (G : Option Addr) (u : World) (hb : Below w.heap.size w u) (h : Ints u .i64 u.heap.size G l) => H key G l l.length u (Nat.le_refl _) hs' h (hE u hb))
  have QX := Lib.hid (fun A C u hA hC => eqPlan_same key A C l l.length l.length u hs' hA hC)
  have MX := Lib.hid (fun (lo hi g : Nat) (u : World) (hh : g < hi) (h : PartI lo u g l) => markPlan_part key lo hi g l u hs' hh h)
  have QS := Lib.hid (formatG_short key l)
  generalize formatG key l = o at SP CI QS
  have QG := Lib.hid (fun (v v' : Value) (u : World) (h : RdG u u.heap.size (optG o) v) (h' : RdG u u.heap.size (optG o) v') => eqVolume_same (optG o) v v' u QS.out.g h h')
  have MG := Lib.hid (fun (base : Nat) (v : Value) (w0 u : World) (h : VolQ w0 base o v) (hs : Since base w0 u) => markVolumeQ_calls base o v w0 u QS.out h hs)
  have HG := Lib.hid (fun (base : Nat) (v : Value) (u : World) (h : HeldQ u base o v) => heldVolumeQ_calls base o v u QS.out h)
  have hqm : ¬ qMarks o < 0 := by
    have h0 : 0 ≤ qMarks o := qMarks_pos QS.out
    omega
  generalize qMarks o = qm at MG HG hqm
  have hqq : (qm != qm) = false := by simp
  have hz2 : ¬ (1 : Int) + l.length < 0 := by omega
  clear hA hs hn H hE QS
  go_enter Tryz.func3, Tryz.ntmps3
  go_wp2_with fail
  have k0 := K0.out
  clear K0
  obtain ⟨kc0, kf0, -⟩ := k0.rd
  go_wp2_with fail
  refine (S.out _).mono ?_; rintro e uz1 ⟨rfl, bz2⟩
  have hz3 := k0.below bz2
  clear k0 bz2 kc0 kf0
  obtain ⟨kc0, kf0, -⟩ := hz3.rd
  clear S
  go_wp2_with fail
  refine (T.out 0 _ hz3.1 (Nat.zero_le _)).mono ?_; rintro e uz4 ⟨g1, rfl, hp, b1⟩
  have hz5 := hz3.below b1
  have HRD := Lib.hid hp.2.1
  clear hz3 b1 hp kc0 kf0
  obtain ⟨kc0, kf0, -⟩ := hz5.rd
  go_wp2_with fail
  refine (SP.out _ _ HRD.out).mono ?_; rintro e uz6 ⟨cs, rfl, hq, b1⟩
  have hz7 := hz5.below b1
  obtain ⟨kw, Aw, nw, cw, Bw, mw, dw, Cw, pw, ew, Ew, qw, sw, tw, e1⟩ := hq.reads.six
  injection e1 with e1
  subst e1
  have HW := Lib.hid hq
  have LOW := Lib.hid (Below.refl uz6.heap.size uz6)
  clear hz5 b1 hq HRD SP kc0 kf0
  obtain ⟨kc0, kf0, -⟩ := hz7.rd
  have lkz8_0 : w.heap.size < uz6.heap.size := hz7.lt (x := (w.heap.size, 24, #[.int .i64 key, .slice A l.length cap])) (by simp)
  have kz8 := hz7.put1 uz6.heap.size 31 #[.int .i64 kw, .slice Aw nw cw, .slice Bw mw dw, .slice Cw pw ew, .slice Ew qw sw, .int .i64 tw] rfl
  have low_ := LOW.out.trans ((box_below uz6 (.cells #[.int .i64 kw, .slice Aw nw cw, .slice Bw mw dw, .slice Cw pw ew, .slice Ew qw sw, .int .i64 tw] 31)).mono LOW.out.size)
  clear hz7 kc0 kf0
  go_upto_region 6 with fail
  generalize World.alloc _ _ = wa at kz8 low_ ⊢
  have LOW := Lib.hid low_
  clear low_
  obtain ⟨kc0, kf0, kc1, kf1, -⟩ := kz8.rd
  go_wp2_with fail
  have la0 : uz6.heap.size < wa.heap.size := kz8.lt (x := (uz6.heap.size, 31, #[.int .i64 kw, .slice Aw nw cw, .slice Bw mw dw, .slice Cw pw ew, .slice Ew qw sw, .int .i64 tw])) (by simp)
  have la1 : w.heap.size < wa.heap.size := kz8.lt (x := (w.heap.size, 24, #[.int .i64 key, .slice A l.length cap])) (by simp)
  obtain ⟨lo, hlo⟩ : ∃ n, n = wa.heap.size := ⟨_, rfl⟩
  refine (T.out lo _ kz8.1 (by omega)).mono ?_; rintro e uz9 ⟨g2, rfl, hp, b1⟩
  have hz10 := kz8.below b1
  have hi0 : lo ≤ uz9.heap.size := by rw [hlo]; exact b1.size
  have hg2 : g2 < uz9.heap.size := by obtain ⟨-, -, cs, h, -⟩ := hp; exact h.lt
  obtain ⟨hi, hhi⟩ : ∃ n, n = uz9.heap.size := ⟨_, rfl⟩
  rw [← hhi] at hg2
  rw [← hlo] at la0 la1
  have low_ := LOW.out.trans (b1.mono LOW.out.size)
  clear LOW
  have LOW := Lib.hid low_
  have XP := Lib.hid hp
  clear kz8 b1 hp low_ hlo kc0 kf0 kc1 kf1
  obtain ⟨kc0, kf0, kc1, kf1, -⟩ := hz10.rd
  have lkz11_0 : uz6.heap.size < uz9.heap.size := hz10.lt (x := (uz6.heap.size, 31, #[.int .i64 kw, .slice Aw nw cw, .slice Bw mw dw, .slice Cw pw ew, .slice Ew qw sw, .int .i64 tw])) (by simp)
  have lkz11_1 : w.heap.size < uz9.heap.size := hz10.lt (x := (w.heap.size, 24, #[.int .i64 key, .slice A l.length cap])) (by simp)
  have kz11 := hz10.put1 uz9.heap.size 26 #[.int .i64 key, .slice (some ⟨g2, 0, none⟩) l.length l.length] rfl
  have low_ := LOW.out.trans ((box_below uz9 (.cells #[.int .i64 key, .slice (some ⟨g2, 0, none⟩) l.length l.length] 26)).mono LOW.out.size)
  have xp_ := XP.out.since (Since.of_below (box_below uz9 (.cells #[.int .i64 key, .slice (some ⟨g2, 0, none⟩) l.length l.length] 26)))
  clear hz10 kc0 kf0 kc1 kf1
  go_upto_region 7 with fail
  generalize World.alloc _ _ = wb at kz11 low_ xp_ ⊢
  have LOW := Lib.hid low_
  clear low_
  have XP := Lib.hid xp_
  clear xp_
  obtain ⟨kc0, kf0, kc1, kf1, kc2, kf2, -⟩ := kz11.rd
  go_wp2_with fail
  have lb0 : uz9.heap.size < wb.heap.size := kz11.lt (x := (uz9.heap.size, 26, #[.int .i64 key, .slice (some ⟨g2, 0, none⟩) l.length l.length])) (by simp)
  refine (CI.out _ _ kz11.1 XP.out.2.1).mono ?_; rintro e uz12 ⟨cs, rfl, hq, b1⟩
  have hz13 := kz11.below b1
  obtain ⟨kg, Ag, ng, cg, Bg, mg, dg, Cg, pg, eg, Eg, qg, sg, tg, e1⟩ := hq.reads.six
  injection e1 with e1
  subst e1
  have hb2 : wb.heap.size ≤ uz12.heap.size := b1.size
  obtain ⟨base, hbase⟩ : ∃ n, n = wb.heap.size := ⟨_, rfl⟩
  rw [← hbase] at hq hb2 lb0
  have SG := Lib.hid (Since.refl base uz12)
  have HQ := Lib.hid hq
  have low_ := LOW.out.trans (b1.mono LOW.out.size)
  have xp_ := XP.out.since (Since.of_below b1)
  clear LOW XP
  have LOW := Lib.hid low_
  have XP := Lib.hid xp_
  clear kz11 b1 hq hbase low_ xp_ kc0 kf0 kc1 kf1 kc2 kf2
  obtain ⟨kc0, kf0, kc1, kf1, kc2, kf2, -⟩ := hz13.rd
  have lkz14_0 : uz9.heap.size < uz12.heap.size := hz13.lt (x := (uz9.heap.size, 26, #[.int .i64 key, .slice (some ⟨g2, 0, none⟩) l.length l.length])) (by simp)
  have lkz14_1 : uz6.heap.size < uz12.heap.size := hz13.lt (x := (uz6.heap.size, 31, #[.int .i64 kw, .slice Aw nw cw, .slice Bw mw dw, .slice Cw pw ew, .slice Ew qw sw, .int .i64 tw])) (by simp)
  have lkz14_2 : w.heap.size < uz12.heap.size := hz13.lt (x := (w.heap.size, 24, #[.int .i64 key, .slice A l.length cap])) (by simp)
  have kz14 := hz13.put1 uz12.heap.size 31 #[.int .i64 kg, .slice Ag ng cg, .slice Bg mg dg, .slice Cg pg eg, .slice Eg qg sg, .int .i64 tg] rfl
  have low_ := LOW.out.trans ((box_below uz12 (.cells #[.int .i64 kg, .slice Ag ng cg, .slice Bg mg dg, .slice Cg pg eg, .slice Eg qg sg, .int .i64 tg] 31)).mono LOW.out.size)
  have xp_ := XP.out.since (Since.of_below (box_below uz12 (.cells #[.int .i64 kg, .slice Ag ng cg, .slice Bg mg dg, .slice Cg pg eg, .slice Eg qg sg, .int .i64 tg] 31)))
  have sg_ := SG.out.trans (Since.of_below (box_below uz12 (.cells #[.int .i64 kg, .slice Ag ng cg, .slice Bg mg dg, .slice Cg pg eg, .slice Eg qg sg, .int .i64 tg] 31)))
  clear hz13 kc0 kf0 kc1 kf1 kc2 kf2
  go_upto_region 8 with fail
  generalize World.alloc _ _ = wc at kz14 low_ xp_ sg_ ⊢
  have LOW := Lib.hid low_
  clear low_
  have XP := Lib.hid xp_
  clear xp_
  have SG := Lib.hid sg_
  clear sg_
  obtain ⟨kc0, kf0, kc1, kf1, kc2, kf2, kc3, kf3, -⟩ := kz14.rd
  go_wp2_with fail
  refine (QG.out _ _ _ (HQ.out.since SG.out).reads (HW.out.below LOW.out).reads).mono ?_; rintro e uz15 ⟨rfl, bz16⟩
  have hz17 := kz14.below bz16
  have low_ := LOW.out.trans (bz16.mono LOW.out.size)
  have xp_ := XP.out.since (Since.of_below bz16)
  have sg_ := SG.out.trans (Since.of_below bz16)
  clear kz14 bz16 LOW XP SG kc0 kf0 kc1 kf1 kc2 kf2 kc3 kf3
  have LOW := Lib.hid low_
  clear low_
  have XP := Lib.hid xp_
  clear xp_
  have SG := Lib.hid sg_
  clear sg_
  obtain ⟨kc0, kf0, kc1, kf1, kc2, kf2, kc3, kf3, -⟩ := hz17.rd
  go_upto_region 10 with fail
  have dr : Below uz15.heap.size uz15 uz15.drew := (Below.refl _ _).drew
  have Kz18 := Lib.hid hz17.drew
  clear hz17
  have low_ := LOW.out.trans (dr.mono LOW.out.size)
  have xp_ := XP.out.since (Since.of_below dr)
  have sg_ := SG.out.trans (Since.of_below dr)
  clear LOW XP SG dr
  have LOW := Lib.hid low_
  clear low_
  have XP := Lib.hid xp_
  clear xp_
  have SG := Lib.hid sg_
  clear sg_
  go_region_with (first
    | (go_at_call 6; refine (T.out 0 _ Kz18.out.1 (Nat.zero_le _)).mono ?_; rintro e wx ⟨g3, rfl, hp, bfx⟩; have kfx := Kz18.out.below bfx; obtain ⟨mc0, mf0, mc1, mf1, mc2, mf2, mc3, mf3, -⟩ := kfx.rd; have FX := Lib.hid hp.2.1; have FY := Lib.hid (XP.out.since (Since.of_below bfx)).2.1; have FB := Lib.hid bfx; clear kfx bfx hp)
    | (go_at_call 9; refine (QX.out _ _ _ FY.out FX.out).mono ?_; rintro e wy ⟨rfl, hyb⟩; have GB := Lib.hid (FB.out.trans (hyb.mono FB.out.size)); clear hyb))
  all_goals
    have hz19 := Kz18.out.below GB.out
    have low_ := LOW.out.trans (GB.out.mono LOW.out.size)
    have xp_ := XP.out.since (Since.of_below GB.out)
    have sg_ := SG.out.trans (Since.of_below GB.out)
    clear Kz18 LOW XP SG FB GB FX FY
    have LOW := Lib.hid low_
    clear low_
    have XP := Lib.hid xp_
    clear xp_
    have SG := Lib.hid sg_
    clear sg_
    go_upto_region 13 with fail
    obtain ⟨kc0, kf0, kc1, kf1, kc2, kf2, kc3, kf3, -⟩ := hz19.rd
    go_wp2_with fail
    have sy := hz19.1.size
    have sy2 := LOW.out.size
    have sy3 := SG.out.1
    refine (MX.out lo hi _ _ hg2 XP.out).mono ?_; rintro e uz20 ⟨rfl, hm⟩
    have hz21 := hz19.mid hm (by omega) (by omega) (by intro y hy; simp at hy; rcases hy with rfl | rfl | rfl | rfl <;> simp <;> omega)
    have low_ := below_mid LOW.out hm (by omega) (by omega)
    have sg_ := SG.out.mid hm (by omega)
    clear LOW SG XP MX sy sy2 sy3 hm
    have LOW := Lib.hid low_
    have SG := Lib.hid sg_
    clear hz19 low_ sg_ kc0 kf0 kc1 kf1 kc2 kf2 kc3 kf3
    obtain ⟨kc0, kf0, kc1, kf1, kc2, kf2, kc3, kf3, -⟩ := hz21.rd
    go_wp2_with fail
    refine (QG.out _ _ _ (HQ.out.since SG.out).reads (HW.out.below LOW.out).reads).mono ?_; rintro e uz22 ⟨rfl, bz23⟩
    have hz24 := hz21.below bz23
    have low_ := LOW.out.trans (bz23.mono LOW.out.size)
    have sg_ := SG.out.trans (Since.of_below bz23)
    clear hz21 bz23 LOW SG kc0 kf0 kc1 kf1 kc2 kf2 kc3 kf3
    have LOW := Lib.hid low_
    clear low_
    have SG := Lib.hid sg_
    clear sg_
    obtain ⟨kc0, kf0, kc1, kf1, kc2, kf2, kc3, kf3, -⟩ := hz24.rd
    go_wp2_with fail
    have sy := hz24.1.size
    have sy2 := LOW.out.size
    have sy3 := SG.out.1
    refine (MG.out _ _ _ _ HQ.out SG.out).mono ?_; rintro e uz25 ⟨rfl, hh, hm⟩
    have hz26 := hz24.mid hm (by omega) (by omega) (by intro y hy; simp at hy; rcases hy with rfl | rfl | rfl | rfl <;> simp <;> omega)
    have low_ := below_mid LOW.out hm (by omega) (by omega)
    clear LOW SG HQ MG sy sy2 sy3 hm
    have LOW := Lib.hid low_
    have HH := Lib.hid hh
    clear hz24 low_ hh kc0 kf0 kc1 kf1 kc2 kf2 kc3 kf3
    obtain ⟨kc0, kf0, kc1, kf1, kc2, kf2, kc3, kf3, -⟩ := hz26.rd
    go_wp2_with fail
    refine (HG.out _ _ _ HH.out).mono ?_; rintro e uz27 ⟨rfl, bz28⟩
    have hz29 := hz26.below bz28
    have low_ := LOW.out.trans (bz28.mono LOW.out.size)
    have hh_ := HH.out.below bz28
    clear hz26 bz28 LOW HH kc0 kf0 kc1 kf1 kc2 kf2 kc3 kf3
    have LOW := Lib.hid low_
    clear low_
    have HH := Lib.hid hh_
    clear hh_
    obtain ⟨kc0, kf0, kc1, kf1, kc2, kf2, kc3, kf3, -⟩ := hz29.rd
    go_wp2_with fail
    refine (T.out 0 _ hz29.1 (Nat.zero_le _)).mono ?_; rintro e uz30 ⟨g4, rfl, hp, b1⟩
    have hz31 := hz29.below b1
    have HRD := Lib.hid hp.2.1
    have low_ := LOW.out.trans (b1.mono LOW.out.size)
    have hh_ := HH.out.below b1
    clear LOW HH
    have LOW := Lib.hid low_
    have HH := Lib.hid hh_
    clear hz29 b1 hp low_ hh_ kc0 kf0 kc1 kf1 kc2 kf2 kc3 kf3
    obtain ⟨kc0, kf0, kc1, kf1, kc2, kf2, kc3, kf3, -⟩ := hz31.rd
    go_wp2_with fail
    refine (CI.out _ _ hz31.1 HRD.out).mono ?_; rintro e uz32 ⟨cs, rfl, hq, b1⟩
    have hz33 := hz31.below b1
    obtain ⟨kh, Ah, nh, ch, Bh, mh, dh, Ch, ph, eh, Eh, qh, sh, th, e1⟩ := hq.reads.six
    injection e1 with e1
    subst e1
    have HR := Lib.hid hq.reads
    have low_ := LOW.out.trans (b1.mono LOW.out.size)
    have hh_ := HH.out.below b1
    clear LOW HH
    have LOW := Lib.hid low_
    have HH := Lib.hid hh_
    clear hz31 b1 hq HRD CI low_ hh_ kc0 kf0 kc1 kf1 kc2 kf2 kc3 kf3
    obtain ⟨kc0, kf0, kc1, kf1, kc2, kf2, kc3, kf3, -⟩ := hz33.rd
    have lkz34_0 : uz12.heap.size < uz32.heap.size := hz33.lt (x := (uz12.heap.size, 31, #[.int .i64 kg, .slice Ag ng cg, .slice Bg mg dg, .slice Cg pg eg, .slice Eg qg sg, .int .i64 tg])) (by simp)
    have lkz34_1 : uz9.heap.size < uz32.heap.size := hz33.lt (x := (uz9.heap.size, 26, #[.int .i64 key, .slice (some ⟨g2, 0, none⟩) l.length l.length])) (by simp)
    have lkz34_2 : uz6.heap.size < uz32.heap.size := hz33.lt (x := (uz6.heap.size, 31, #[.int .i64 kw, .slice Aw nw cw, .slice Bw mw dw, .slice Cw pw ew, .slice Ew qw sw, .int .i64 tw])) (by simp)
    have lkz34_3 : w.heap.size < uz32.heap.size := hz33.lt (x := (w.heap.size, 24, #[.int .i64 key, .slice A l.length cap])) (by simp)
    have kz34 := hz33.put1 uz32.heap.size 31 #[.int .i64 kh, .slice Ah nh ch, .slice Bh mh dh, .slice Ch ph eh, .slice Eh qh sh, .int .i64 th] rfl
    have low_ := LOW.out.trans ((box_below uz32 (.cells #[.int .i64 kh, .slice Ah nh ch, .slice Bh mh dh, .slice Ch ph eh, .slice Eh qh sh, .int .i64 th] 31)).mono LOW.out.size)
    have hh_ := HH.out.below (box_below uz32 (.cells #[.int .i64 kh, .slice Ah nh ch, .slice Bh mh dh, .slice Ch ph eh, .slice Eh qh sh, .int .i64 th] 31))
    have hr_ := HR.out.grow (box_below uz32 (.cells #[.int .i64 kh, .slice Ah nh ch, .slice Bh mh dh, .slice Ch ph eh, .slice Eh qh sh, .int .i64 th] 31))
    clear hz33 kc0 kf0 kc1 kf1 kc2 kf2 kc3 kf3
    go_upto_region 25 with fail
    generalize World.alloc _ _ = wd at kz34 low_ hh_ hr_ ⊢
    have LOW := Lib.hid low_
    clear low_
    have HH := Lib.hid hh_
    clear hh_
    have HR := Lib.hid hr_
    clear hr_
    obtain ⟨kc0, kf0, kc1, kf1, kc2, kf2, kc3, kf3, kc4, kf4, -⟩ := kz34.rd
    go_wp2_with fail
    refine (QG.out _ _ _ HR.out (HW.out.below LOW.out).reads).mono ?_; rintro e uz35 ⟨rfl, bz36⟩
    have hz37 := kz34.below bz36
    have hh_ := HH.out.below bz36
    clear kz34 bz36 HH kc0 kf0 kc1 kf1 kc2 kf2 kc3 kf3 kc4 kf4
    have HH := Lib.hid hh_
    clear hh_
    obtain ⟨kc0, kf0, kc1, kf1, kc2, kf2, kc3, kf3, kc4, kf4, -⟩ := hz37.rd
    go_wp2_with fail
    refine (HG.out _ _ _ HH.out).mono ?_; rintro e uz38 ⟨rfl, bz39⟩
    have hz40 := hz37.below bz39
    clear hz37 bz39 kc0 kf0 kc1 kf1 kc2 kf2 kc3 kf3 kc4 kf4
    have BZ := Lib.hid hz40.1
    clear hz40
    go_wp2_with fail
    go_ret
    exact ⟨rfl, BZ.out⟩
theorem isEpoch_yes (e_ : Int) (w : World) (h : 0 ≤ e_ ∧ e_ ≤ 1000) : Calls Tryz.prog 97 #[.int .i64 e_] w fun e w' => e = .returned (.bool true) ∧ w = w' := by
  obtain ⟨h0, h1⟩ := h
  go_enter Tryz.func97, Tryz.ntmps97
  go_wp2_with fail
  go_ret
  exact ⟨rfl, rfl⟩
theorem isEpoch_no (e_ : Int) (w : World) (h : ¬ (0 ≤ e_ ∧ e_ ≤ 1000)) : Calls Tryz.prog 97 #[.int .i64 e_] w fun e w' => e = .returned (.bool false) ∧ w = w' := by
  by_cases h0 : 0 ≤ e_
  · have h1 : ¬ e_ ≤ 1000 := by omega
    have hd : decide (e_ ≤ 1000) = false := decide_eq_false h1
    clear h
    go_enter Tryz.func97, Tryz.ntmps97
    go_wp2_with fail
    go_ret
    exact ⟨rfl, rfl⟩
  · have hd : decide (0 ≤ e_) = false := decide_eq_false h0
    clear h
    go_enter Tryz.func97, Tryz.ntmps97
    go_wp2_with fail
    go_ret
    exact ⟨rfl, rfl⟩
theorem isSumP_yes (s : Int) (w : World) (h : isSumP s) : Calls Tryz.prog 104 #[.int .i64 s] w fun e w' => e = .returned (.bool true) ∧ w = w' := isSum_yes s w h.1 h.2
theorem isSumP_no (s : Int) (w : World) (h : ¬ isSumP s) : Calls Tryz.prog 104 #[.int .i64 s] w fun e w' => e = .returned (.bool false) ∧ w = w' := isSum_no s w (by unfold isSumP at h; omega)
def sumsP (t2 t3 t4 t5 t6 : Int) : Prop := (t2 = 0 → t5 = 0 ∧ t6 = 0) ∧ isSumP t3 ∧ isSumP t4 ∧ isSumP t5 ∧ isSumP t6
instance (t2 t3 t4 t5 t6 : Int) : Decidable (sumsP t2 t3 t4 t5 t6) := inferInstanceAs (Decidable (_ ∧ _))
set_option maxRecDepth 20000 in
set_option maxHeartbeats 4000000 in
theorem sumsOk_calls (p : Nat) (t0 t1 t2 t3 t4 t5 t6 : Int) (t7 : Bool) (w : World) (hp : CellsAt w p 43 (tA t0 t1 t2 t3 t4 t5 t6 t7)) :
    Calls Tryz.prog 98 #[.pointer (some ⟨p, 0, none⟩)] w fun e w' => e = .returned (.bool (decide (sumsP t2 t3 t4 t5 t6))) ∧ w = w' := by
  have kc : ∀ i, w.cell? ⟨p, i, none⟩ = (tA t0 t1 t2 t3 t4 t5 t6 t7)[i]? := hp.cell
  clear hp
  by_cases h2 : t2 = 0
  · subst h2
    by_cases h5 : t5 = 0
    · subst h5
      by_cases h6 : t6 = 0
      · subst h6
        have s5 := Lib.hid (show isSumP 0 by decide)
        have s6 := Lib.hid (show isSumP 0 by decide)
        have C5 := Lib.hid (fun w => isSumP_yes 0 w (by decide))
        by_cases s3_ : isSumP t3
        · have s3 := Lib.hid s3_; have C3 := Lib.hid (fun w => isSumP_yes t3 w s3_); clear s3_
          by_cases s4_ : isSumP t4
          · have s4 := Lib.hid s4_; have C4 := Lib.hid (fun w => isSumP_yes t4 w s4_); clear s4_
            rw [decide_eq_true (show sumsP _ _ _ _ _ from ⟨fun _ => ⟨rfl, rfl⟩, s3.out, s4.out, s5.out, s6.out⟩)]
            go_enter Tryz.func98, Tryz.ntmps98
            go_wp2_with fail
            refine (C3.out _).mono ?_; rintro e w' ⟨rfl, rfl⟩
            go_wp2_with fail
            refine (C4.out _).mono ?_; rintro e w' ⟨rfl, rfl⟩
            go_wp2_with fail
            refine (C5.out _).mono ?_; rintro e w' ⟨rfl, rfl⟩
            go_wp2_with fail
            refine (C5.out _).mono ?_; rintro e w' ⟨rfl, rfl⟩
            go_wp2_with fail
            go_ret
            exact ⟨rfl, rfl⟩
          · have s4 := Lib.hid s4_; have C4 := Lib.hid (fun w => isSumP_no t4 w s4_); clear s4_
            rw [decide_eq_false (show ¬ sumsP _ _ _ _ _ from fun h => s4.out h.2.2.1)]
            go_enter Tryz.func98, Tryz.ntmps98
            go_wp2_with fail
            refine (C3.out _).mono ?_; rintro e w' ⟨rfl, rfl⟩
            go_wp2_with fail
            refine (C4.out _).mono ?_; rintro e w' ⟨rfl, rfl⟩
            go_wp2_with fail
            go_ret
            exact ⟨rfl, rfl⟩
        · have s3 := Lib.hid s3_; have C3 := Lib.hid (fun w => isSumP_no t3 w s3_); clear s3_
          rw [decide_eq_false (show ¬ sumsP _ _ _ _ _ from fun h => s3.out h.2.1)]
          go_enter Tryz.func98, Tryz.ntmps98
          go_wp2_with fail
          refine (C3.out _).mono ?_; rintro e w' ⟨rfl, rfl⟩
          go_wp2_with fail
          go_ret
          exact ⟨rfl, rfl⟩
      · have n6 : (t6 != 0) = true := by simpa using h6
        have N6 := Lib.hid h6
        clear h6
        rw [decide_eq_false (show ¬ sumsP _ _ _ _ _ from fun h => N6.out (h.1 rfl).2)]
        go_enter Tryz.func98, Tryz.ntmps98
        go_wp2_with fail
        go_ret
        exact ⟨rfl, rfl⟩
    · have n5 : (t5 != 0) = true := by simpa using h5
      have N5 := Lib.hid h5
      clear h5
      rw [decide_eq_false (show ¬ sumsP _ _ _ _ _ from fun h => N5.out (h.1 rfl).1)]
      go_enter Tryz.func98, Tryz.ntmps98
      go_wp2_with fail
      go_ret
      exact ⟨rfl, rfl⟩
  · have n2 : (t2 == 0) = false := by simpa using h2
    have N2 := Lib.hid h2
    clear h2
    by_cases s3_ : isSumP t3
    · have s3 := Lib.hid s3_; have C3 := Lib.hid (fun w => isSumP_yes t3 w s3_); clear s3_
      by_cases s4_ : isSumP t4
      · have s4 := Lib.hid s4_; have C4 := Lib.hid (fun w => isSumP_yes t4 w s4_); clear s4_
        by_cases s5_ : isSumP t5
        · have s5 := Lib.hid s5_; have C5 := Lib.hid (fun w => isSumP_yes t5 w s5_); clear s5_
          by_cases s6_ : isSumP t6
          · have s6 := Lib.hid s6_; have C6 := Lib.hid (fun w => isSumP_yes t6 w s6_); clear s6_
            rw [decide_eq_true (show sumsP _ _ _ _ _ from ⟨fun h => absurd h N2.out, s3.out, s4.out, s5.out, s6.out⟩)]
            go_enter Tryz.func98, Tryz.ntmps98
            go_wp2_with fail
            refine (C3.out _).mono ?_; rintro e w' ⟨rfl, rfl⟩
            go_wp2_with fail
            refine (C4.out _).mono ?_; rintro e w' ⟨rfl, rfl⟩
            go_wp2_with fail
            refine (C5.out _).mono ?_; rintro e w' ⟨rfl, rfl⟩
            go_wp2_with fail
            refine (C6.out _).mono ?_; rintro e w' ⟨rfl, rfl⟩
            go_wp2_with fail
            go_ret
            exact ⟨rfl, rfl⟩
          · have s6 := Lib.hid s6_; have C6 := Lib.hid (fun w => isSumP_no t6 w s6_); clear s6_
            rw [decide_eq_false (show ¬ sumsP _ _ _ _ _ from fun h => s6.out h.2.2.2.2)]
            go_enter Tryz.func98, Tryz.ntmps98
            go_wp2_with fail
            refine (C3.out _).mono ?_; rintro e w' ⟨rfl, rfl⟩
            go_wp2_with fail
            refine (C4.out _).mono ?_; rintro e w' ⟨rfl, rfl⟩
            go_wp2_with fail
            refine (C5.out _).mono ?_; rintro e w' ⟨rfl, rfl⟩
            go_wp2_with fail
            refine (C6.out _).mono ?_; rintro e w' ⟨rfl, rfl⟩
            go_wp2_with fail
            go_ret
            exact ⟨rfl, rfl⟩
        · have s5 := Lib.hid s5_; have C5 := Lib.hid (fun w => isSumP_no t5 w s5_); clear s5_
          rw [decide_eq_false (show ¬ sumsP _ _ _ _ _ from fun h => s5.out h.2.2.2.1)]
          go_enter Tryz.func98, Tryz.ntmps98
          go_wp2_with fail
          refine (C3.out _).mono ?_; rintro e w' ⟨rfl, rfl⟩
          go_wp2_with fail
          refine (C4.out _).mono ?_; rintro e w' ⟨rfl, rfl⟩
          go_wp2_with fail
          refine (C5.out _).mono ?_; rintro e w' ⟨rfl, rfl⟩
          go_wp2_with fail
          go_ret
          exact ⟨rfl, rfl⟩
      · have s4 := Lib.hid s4_; have C4 := Lib.hid (fun w => isSumP_no t4 w s4_); clear s4_
        rw [decide_eq_false (show ¬ sumsP _ _ _ _ _ from fun h => s4.out h.2.2.1)]
        go_enter Tryz.func98, Tryz.ntmps98
        go_wp2_with fail
        refine (C3.out _).mono ?_; rintro e w' ⟨rfl, rfl⟩
        go_wp2_with fail
        refine (C4.out _).mono ?_; rintro e w' ⟨rfl, rfl⟩
        go_wp2_with fail
        go_ret
        exact ⟨rfl, rfl⟩
    · have s3 := Lib.hid s3_; have C3 := Lib.hid (fun w => isSumP_no t3 w s3_); clear s3_
      rw [decide_eq_false (show ¬ sumsP _ _ _ _ _ from fun h => s3.out h.2.1)]
      go_enter Tryz.func98, Tryz.ntmps98
      go_wp2_with fail
      refine (C3.out _).mono ?_; rintro e w' ⟨rfl, rfl⟩
      go_wp2_with fail
      go_ret
      exact ⟨rfl, rfl⟩
def suitsP (n t0 t1 t2 t3 t4 t5 t6 : Int) : Prop := isTm t0 ∧ (0 ≤ t1 ∧ t1 ≤ 1000) ∧ 0 ≤ t2 ∧ t2 < n ∧ sumsP t2 t3 t4 t5 t6
instance (n t0 t1 t2 t3 t4 t5 t6 : Int) : Decidable (suitsP n t0 t1 t2 t3 t4 t5 t6) := inferInstanceAs (Decidable (_ ∧ _))
set_option maxRecDepth 20000 in
set_option maxHeartbeats 4000000 in
theorem suits_calls (p : Nat) (n t0 t1 t2 t3 t4 t5 t6 : Int) (t7 : Bool) (w : World) (hp : CellsAt w p 43 (tA t0 t1 t2 t3 t4 t5 t6 t7)) :
    Calls Tryz.prog 86 #[.pointer (some ⟨p, 0, none⟩), .int .i64 n] w fun e w' => e = .returned (.bool (decide (suitsP n t0 t1 t2 t3 t4 t5 t6))) ∧ w = w' := by
  have kc : ∀ i, w.cell? ⟨p, i, none⟩ = (tA t0 t1 t2 t3 t4 t5 t6 t7)[i]? := hp.cell
  by_cases h0 : isTm t0
  · have H0 := Lib.hid h0; have CT := Lib.hid (fun w => isTime_yes t0 w h0); clear h0
    by_cases h1 : 0 ≤ t1 ∧ t1 ≤ 1000
    · have H1 := Lib.hid h1; have CE := Lib.hid (fun w => isEpoch_yes t1 w h1); clear h1
      by_cases h2 : 0 ≤ t2
      · by_cases h3 : t2 < n
        · have hd0 : decide (0 ≤ t2) = true := decide_eq_true h2
          have hd1 : decide (t2 < n) = true := decide_eq_true h3
          have H2 := Lib.hid h2; have H3 := Lib.hid h3
          have CS := Lib.hid (fun u (h : CellsAt u p 43 (tA t0 t1 t2 t3 t4 t5 t6 t7)) => sumsOk_calls p t0 t1 t2 t3 t4 t5 t6 t7 u h)
          have HP := Lib.hid hp
          clear hp
          by_cases h4 : sumsP t2 t3 t4 t5 t6
          · rw [decide_eq_true h4] at CS
            have H4 := Lib.hid h4
            clear h4
            rw [decide_eq_true (show suitsP _ _ _ _ _ _ _ _ from ⟨H0.out, H1.out, H2.out, H3.out, H4.out⟩)]
            go_enter Tryz.func86, Tryz.ntmps86
            go_wp2_with fail
            refine (CT.out _).mono ?_; rintro e w' ⟨rfl, rfl⟩
            go_wp2_with fail
            refine (CE.out _).mono ?_; rintro e w' ⟨rfl, rfl⟩
            go_wp2_with fail
            refine (CS.out _ HP.out).mono ?_; rintro e w' ⟨rfl, rfl⟩
            go_wp2_with fail
            go_ret
            exact ⟨rfl, rfl⟩
          · rw [decide_eq_false h4] at CS
            have H4 := Lib.hid h4
            clear h4
            rw [decide_eq_false (show ¬ suitsP _ _ _ _ _ _ _ _ from fun h => H4.out h.2.2.2.2)]
            go_enter Tryz.func86, Tryz.ntmps86
            go_wp2_with fail
            refine (CT.out _).mono ?_; rintro e w' ⟨rfl, rfl⟩
            go_wp2_with fail
            refine (CE.out _).mono ?_; rintro e w' ⟨rfl, rfl⟩
            go_wp2_with fail
            refine (CS.out _ HP.out).mono ?_; rintro e w' ⟨rfl, rfl⟩
            go_wp2_with fail
            go_ret
            exact ⟨rfl, rfl⟩
        · have hd0 : decide (0 ≤ t2) = true := decide_eq_true h2
          have hd1 : decide (t2 < n) = false := decide_eq_false h3
          have H3 := Lib.hid h3
          rw [decide_eq_false (show ¬ suitsP _ _ _ _ _ _ _ _ from fun h => H3.out h.2.2.2.1)]
          go_enter Tryz.func86, Tryz.ntmps86
          go_wp2_with fail
          refine (CT.out _).mono ?_; rintro e w' ⟨rfl, rfl⟩
          go_wp2_with fail
          refine (CE.out _).mono ?_; rintro e w' ⟨rfl, rfl⟩
          go_wp2_with fail
          go_ret
          exact ⟨rfl, rfl⟩
      · have hd0 : decide (0 ≤ t2) = false := decide_eq_false h2
        have H3 := Lib.hid h2
        rw [decide_eq_false (show ¬ suitsP _ _ _ _ _ _ _ _ from fun h => H3.out h.2.2.1)]
        go_enter Tryz.func86, Tryz.ntmps86
        go_wp2_with fail
        refine (CT.out _).mono ?_; rintro e w' ⟨rfl, rfl⟩
        go_wp2_with fail
        refine (CE.out _).mono ?_; rintro e w' ⟨rfl, rfl⟩
        go_wp2_with fail
        go_ret
        exact ⟨rfl, rfl⟩
    · have H1 := Lib.hid h1; have CE := Lib.hid (fun w => isEpoch_no t1 w h1); clear h1
      rw [decide_eq_false (show ¬ suitsP _ _ _ _ _ _ _ _ from fun h => H1.out h.2.1)]
      go_enter Tryz.func86, Tryz.ntmps86
      go_wp2_with fail
      refine (CT.out _).mono ?_; rintro e w' ⟨rfl, rfl⟩
      go_wp2_with fail
      refine (CE.out _).mono ?_; rintro e w' ⟨rfl, rfl⟩
      go_wp2_with fail
      go_ret
      exact ⟨rfl, rfl⟩
  · have H0 := Lib.hid h0; have CT := Lib.hid (fun w => isTime_no t0 w h0); clear h0
    rw [decide_eq_false (show ¬ suitsP _ _ _ _ _ _ _ _ from fun h => H0.out h.1)]
    go_enter Tryz.func86, Tryz.ntmps86
    go_wp2_with fail
    refine (CT.out _).mono ?_; rintro e w' ⟨rfl, rfl⟩
    go_wp2_with fail
    go_ret
    exact ⟨rfl, rfl⟩
set_option maxRecDepth 20000 in
set_option maxHeartbeats 4000000 in
theorem implTrustOk_calls (key x : Int) (A : Option Addr) (l : List Int) (cap : Nat) (t0 t1 t2 t3 t4 t5 t6 : Int) (t7 : Bool) (w : World) (hn : l.length ≤ 1048576) (hcap : l.length ≤ cap) (hA : Ints w .i64 w.heap.size A l) :
    Calls Tryz.prog 75 #[.agg (pA key A l.length cap), .int .i64 x, .agg (tA t0 t1 t2 t3 t4 t5 t6 t7)] w fun e w' => e = .returned (.bool (trustB key l x ⟨t0, t1, t2, t3, t4, t5, t6, t7⟩)) ∧ Below w.heap.size w w' := by
  have hm : l.length ≤ maxLen := by unfold maxLen; omega
  have F0 := fun (u : World) (hb : Below w.heap.size w u) => firstOf_calls key x A l cap u hm hcap ((hA.below hb (Nat.le_refl _)).more hb.size)
  by_cases hf : 0 ≤ firstOf key l x
  · have hpr : planOk key l ∧ 0 ≤ x ∧ x < l.length := by
      refine Classical.byContradiction fun h => ?_
      unfold firstOf at hf
      rw [if_neg h] at hf
      omega
    obtain ⟨r, rfl⟩ : ∃ r : Nat, x = r := ⟨x.toNat, by omega⟩
    have hr : r < l.length := by omega
    obtain ⟨bb, oo, rfl, hbb, hcc⟩ := hA r hr
    have K0 := Lib.hid (show Kept w [(w.heap.size + 1, 43, (tA t0 t1 t2 t3 t4 t5 t6 t7)), (w.heap.size, 26, (pA key (some ⟨bb, oo, none⟩) l.length cap))] _ from (((Kept.refl w).put1 _ _ (pA key (some ⟨bb, oo, none⟩) l.length cap) rfl).put1 _ _ (tA t0 t1 t2 t3 t4 t5 t6 t7) (by simp)))
    have hd : decide (0 ≤ firstOf key l (r : Int)) = true := decide_eq_true hf
    have hi1 : (r : Int) < l.length := by omega
    have hi0 : (0 : Int) ≤ r := by omega
    have HC := Lib.hid (fun (u : World) (hb : Below w.heap.size w u) => (hb.cell (p := ⟨bb, oo + r, none⟩) hbb).trans hcc)
    have ev : l.getD ((r : Int)).toNat 0 = l.getD r 0 := by rw [Int.toNat_natCast]
    have HT := Lib.hid (show trustB key l (r : Int) ⟨t0, t1, t2, t3, t4, t5, t6, t7⟩ = decide (suitsP (l.getD r 0) t0 t1 t2 t3 t4 t5 t6) from by
      unfold trustB
      congr 1
      unfold trustOk suitsP sumsP
      rw [ev]
      simp only [eq_iff_iff]
      constructor
      · rintro ⟨_, _, a, b, ⟨c, d⟩, e, f⟩; exact ⟨a, b, c, by omega, e, f⟩
      · rintro ⟨a, b, c, d, e, f⟩; exact ⟨hpr.1, hpr.2, a, b, ⟨c, by omega⟩, e, f⟩)
    have SC := Lib.hid (fun u (h : CellsAt u (w.heap.size + 1) 43 (tA t0 t1 t2 t3 t4 t5 t6 t7)) => suits_calls (w.heap.size + 1) (l.getD r 0) t0 t1 t2 t3 t4 t5 t6 t7 u h)
    have F := Lib.hid F0
    generalize firstOf key l (r : Int) = f at F hd
    generalize l.getD r 0 = v at HC SC HT
    generalize decide (suitsP v t0 t1 t2 t3 t4 t5 t6) = z at SC HT
    clear hf hpr hr hcc ev hA F0 hm
    go_enter Tryz.func75, Tryz.ntmps75
    go_wp2_with fail
    refine (F.out _ K0.out.1).mono ?_; rintro e u1 ⟨rfl, hb⟩
    have hk1 := K0.out.below hb
    have cc := HC.out _ hk1.1
    have kz := hk1.at_ (p := w.heap.size + 1) (t := 43) (cs := (tA t0 t1 t2 t3 t4 t5 t6 t7)) (by simp)
    have KZ := Lib.hid kz
    have BL := Lib.hid hk1.1
    obtain ⟨kc0, kf0, kc1, kf1, -⟩ := hk1.rd
    clear hb hk1 kz F K0
    go_wp2_with fail
    refine (SC.out _ KZ.out).mono ?_; rintro e u2 ⟨rfl, rfl⟩
    go_wp2_with fail
    go_ret
    exact ⟨by rw [HT.out]; rfl, BL.out⟩
  · have K0 := Lib.hid (show Kept w [(w.heap.size + 1, 43, (tA t0 t1 t2 t3 t4 t5 t6 t7)), (w.heap.size, 26, (pA key A l.length cap))] _ from (((Kept.refl w).put1 _ _ (pA key A l.length cap) rfl).put1 _ _ (tA t0 t1 t2 t3 t4 t5 t6 t7) (by simp)))
    have hd : decide (0 ≤ firstOf key l x) = false := decide_eq_false hf
    have HT := Lib.hid (show trustB key l x ⟨t0, t1, t2, t3, t4, t5, t6, t7⟩ = false from trustB_no (fun h => hf (by
      have hp := h.1; have hx := h.2.1
      unfold firstOf
      rw [if_pos ⟨hp, hx⟩]
      exact (upTo_bd hp.2.2.1 (k := x.toNat) (by omega)).1)))
    have F := Lib.hid F0
    generalize firstOf key l x = f at F hd
    clear hf hA F0 hm
    go_enter Tryz.func75, Tryz.ntmps75
    go_wp2_with fail
    refine (F.out _ K0.out.1).mono ?_; rintro e u1 ⟨rfl, hb⟩
    have BL := Lib.hid (K0.out.below hb).1
    clear hb F K0
    go_wp2_with fail
    go_ret
    exact ⟨by rw [HT.out]; rfl, BL.out⟩
end Go.Proofs.YtgaecedhkbneaaaGreat.Mx

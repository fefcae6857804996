import Derived.Test.YtgaecedhkbneaaaGreatDoorH20
import Derived.Test.YtgaecedhkbneaaaGreatDoorH01
import Derived.Test.YtgaecedhkbneaaaGreatDoorH02
import Derived.OpenShut
import Derived.ShutString
import Derived.ChangeOld
import Derived.Lib.SmallJoins
import Derived.ChangeArms
import Derived.Test.YtgaecedhkbneaaaGreatDoorH07
import Derived.Test.YtgaecedhkbneaaaGreatDoorH08
import Derived.Deep.Slices
import Derived.Deep.Fields
namespace Go.Proofs.YtgaecedhkbneaaaGreatDoor.Mx
open Go.ChangeShapes Go.WideShapes Go.ChangeAt Go.RowKit
set_option linter.unusedVariables false
def AnsCloseIn (E : World → Prop) : Prop := ∀ (x : VolG) (v : Value) (w : World) (a : Int), x.Short → x.Int64 → RdG w w.heap.size x v → E w → 
  Calls Tryz.prog 18 #[v, .int .i64 a] w (Ans2 w (closeG x a))
set_option maxRecDepth 20000 in
set_option maxHeartbeats 16000000 in
theorem closeInLaw_calls (E : World → Prop) (H : AnsCloseIn E) (x : VolG) (v : Value) (a : Int) (w : World) (hE : ∀ u, Below w.heap.size w u → E u) (h : LawVol w x v) :
    Calls Tryz.prog 7 #[v, .int .i64 a] w fun e w' => e = .returned (.bool true) ∧ Below w.heap.size w w' := by
  obtain ⟨hr, hi, m1, m2, m3, m4, m5⟩ := h
  have XSH := Lib.hid (fun (hx : x.Short) => hx)
  have T := Lib.hid (fun (hx : x.Short) (u : World) (hb : Below w.heap.size w u) => toVolume_calls x v u hx ((hr.below hb (Nat.le_refl _)).more hb.size))
  have SP := Lib.hid (fun (hx : x.Short) (v : Value) (u : World) (h : RdG u u.heap.size x v) => closeInG_calls x v a u hx (hi hx) h)
  have CI := Lib.hid (fun (hx : x.Short) (v : Value) (u : World) (hb : Below w.heap.size w u) (h : RdG u u.heap.size x v) => H x v u a hx (hi hx) h (hE u hb))
  have QS := Lib.hid (fun (hx : x.Short) => closeG_short (hi hx) a)
  have SZ := Lib.hid (fun (A : Option Addr) (c : Nat) (B : Option Addr) (d : Nat) (C : Option Addr) (e : Nat) (E : Option Addr) (s : Nat) (u : World) (hE : Slots u u.heap.size E x.slots) => szVolume_calls x A c B d C e E s u m1 m2 m3 m4 hE m5)
  have QX := Lib.hid (fun (hx : x.Short) (v v' : Value) (u : World) (h : RdG u u.heap.size x v) (h' : RdG u u.heap.size x v') => eqVolume_same x v v' u hx h h')
  have MX := Lib.hid (fun (hx : x.Short) (lo hi : Nat) (v : Value) (u : World) (hiu : hi ≤ u.heap.size) (h : OwnG u lo hi x v) => markVolume_mid lo hi x v u hx hiu h)
  generalize closeG x a = R at SP CI QS
  obtain ⟨o, p⟩ := R
  have QG := Lib.hid (fun (hx : x.Short) (v v' : Value) (u : World) (h : RdG u u.heap.size (optG o) v) (h' : RdG u u.heap.size (optG o) v') => eqVolume_same (optG o) v v' u (QS.out hx).g h h')
  have MG := Lib.hid (fun (hx : x.Short) (base : Nat) (v : Value) (w0 u : World) (h : VolQ w0 base o v) (hs : Since base w0 u) => markVolumeQ_calls base o v w0 u (QS.out hx) h hs)
  have HG := Lib.hid (fun (hx : x.Short) (base : Nat) (v : Value) (u : World) (h : HeldQ u base o v) => heldVolumeQ_calls base o v u (QS.out hx) h)
  have HQM := Lib.hid (fun (hx : x.Short) => show ¬ qMarks o < 0 from by
    have h0 : 0 ≤ qMarks o := qMarks_pos (QS.out hx)
    omega)
  generalize qMarks o = qm at MG HG HQM
  have hqq : (qm != qm) = false := by simp
  have hp : (p != p) = false := by simp
  obtain ⟨A, c, B, d, C, e, E', s, rfl, i1, i2, i3, i4, -⟩ := hr
  have I4 := Lib.hid i4
  clear i1 i2 i3 i4 hi m1 m2 m3 m4 m5 H hE QS
  have K0 := Lib.hid (show Kept w [(w.heap.size, 48, #[.int .i64 x.key, .slice A x.counts.length c, .slice B x.trusts.length d, .slice C x.cells.length e, .slice E' x.slots.length s, .int .i64 x.count])] _ from ((Kept.refl w).put1 _ _ #[.int .i64 x.key, .slice A x.counts.length c, .slice B x.trusts.length d, .slice C x.cells.length e, .slice E' x.slots.length s, .int .i64 x.count] rfl))
  go_enter Tryz.func7, Tryz.ntmps7
  go_wp2_with fail
  have k0 := K0.out
  clear K0
  obtain ⟨kc0, kf0, -⟩ := k0.rd
  go_wp2_with fail
  refine (SZ.out A c B d C e E' s _ ((I4.out.below k0.1 (Nat.le_refl _)).more k0.1.size)).mono ?_; rintro e uz1 ⟨r, rfl, hr, bz2⟩
  have hz3 := k0.below bz2
  clear k0 bz2 kc0 kf0
  obtain ⟨kc0, kf0, -⟩ := hz3.rd
  clear I4 SZ
  rcases hr with rfl | ⟨r0, hx⟩
  · have B1 := Lib.hid hz3.1
    clear hz3
    go_wp2_with fail
    go_ret
    exact ⟨rfl, B1.out⟩
  have hr : ¬ r < 0 := by omega
  have HX := Lib.hid hx
  have hqm := HQM.out hx
  clear hx
  go_wp2_with fail
  refine (T.out HX.out _ hz3.1).mono ?_; rintro e uz4 ⟨v1, rfl, -, hrd, b1⟩
  have hz5 := hz3.below b1
  obtain ⟨kv, Av, nv, cv, Bv, mv, dv, Cv, pv, ev, Ev, qv, sv, tv, rfl⟩ := hrd.six
  have HRD := Lib.hid hrd
  clear hz3 b1 hrd kc0 kf0
  obtain ⟨kc0, kf0, -⟩ := hz5.rd
  go_wp2_with fail
  refine (SP.out HX.out _ _ HRD.out).mono ?_; rintro e uz6 ⟨cs, rfl, hq, b1⟩
  have hz7 := hz5.below b1
  obtain ⟨kw, Aw, nw, cw, Bw, mw, dw, Cw, pw, ew, Ew, qw, sw, tw, e1⟩ := hq.reads.six
  injection e1 with e1
  subst e1
  have HW := Lib.hid hq
  have bw0 := Below.refl uz6.heap.size uz6
  have LOW := Lib.hid bw0
  clear hz5 b1 hq HRD SP bw0 kc0 kf0
  obtain ⟨kc0, kf0, -⟩ := hz7.rd
  have lkz8_0 : w.heap.size < uz6.heap.size := hz7.lt (x := (w.heap.size, 48, #[.int .i64 x.key, .slice A x.counts.length c, .slice B x.trusts.length d, .slice C x.cells.length e, .slice E' x.slots.length s, .int .i64 x.count])) (by simp)
  have kz8 := hz7.put1 uz6.heap.size 31 #[.int .i64 kw, .slice Aw nw cw, .slice Bw mw dw, .slice Cw pw ew, .slice Ew qw sw, .int .i64 tw] rfl
  have low_ := LOW.out.trans ((box_below uz6 (.cells #[.int .i64 kw, .slice Aw nw cw, .slice Bw mw dw, .slice Cw pw ew, .slice Ew qw sw, .int .i64 tw] 31)).mono LOW.out.size)
  clear hz7 kc0 kf0
  go_upto_region 6 with fail
  generalize World.alloc _ _ = wa at kz8 low_ ⊢
  have LOW := Lib.hid low_
  clear low_
  obtain ⟨kc0, kf0, kc1, kf1, -⟩ := kz8.rd
  go_wp2_with fail
  have la0 : uz6.heap.size < wa.heap.size := kz8.lt (x := (uz6.heap.size, 31, #[.int .i64 kw, .slice Aw nw cw, .slice Bw mw dw, .slice Cw pw ew, .slice Ew qw sw, .int .i64 tw])) (by simp)
  have la1 : w.heap.size < wa.heap.size := kz8.lt (x := (w.heap.size, 48, #[.int .i64 x.key, .slice A x.counts.length c, .slice B x.trusts.length d, .slice C x.cells.length e, .slice E' x.slots.length s, .int .i64 x.count])) (by simp)
  obtain ⟨lo, hlo⟩ : ∃ n, n = wa.heap.size := ⟨_, rfl⟩
  refine (T.out HX.out _ kz8.1).mono ?_; rintro e uz9 ⟨v1, rfl, hown, hrd, b1⟩
  have hz10 := kz8.below b1
  obtain ⟨kx, Ax, nx, cx, Bx, mx, dx, Cx, px, ex, Ex, qx, sx, tx, rfl⟩ := hrd.six
  have hi0 : lo ≤ uz9.heap.size := by rw [hlo]; exact b1.size
  obtain ⟨hi, hhi⟩ : ∃ n, n = uz9.heap.size := ⟨_, rfl⟩
  rw [← hlo, ← hhi] at hown
  rw [← hlo] at la0 la1
  have low_ := LOW.out.trans (b1.mono LOW.out.size)
  clear LOW
  have LOW := Lib.hid low_
  have XO := Lib.hid hown
  have XR := Lib.hid hrd
  clear kz8 b1 hrd hown low_ hlo kc0 kf0 kc1 kf1
  obtain ⟨kc0, kf0, kc1, kf1, -⟩ := hz10.rd
  have lkz11_0 : uz6.heap.size < uz9.heap.size := hz10.lt (x := (uz6.heap.size, 31, #[.int .i64 kw, .slice Aw nw cw, .slice Bw mw dw, .slice Cw pw ew, .slice Ew qw sw, .int .i64 tw])) (by simp)
  have lkz11_1 : w.heap.size < uz9.heap.size := hz10.lt (x := (w.heap.size, 48, #[.int .i64 x.key, .slice A x.counts.length c, .slice B x.trusts.length d, .slice C x.cells.length e, .slice E' x.slots.length s, .int .i64 x.count])) (by simp)
  have kz11 := hz10.put1 uz9.heap.size 31 #[.int .i64 kx, .slice Ax nx cx, .slice Bx mx dx, .slice Cx px ex, .slice Ex qx sx, .int .i64 tx] rfl
  have low_ := LOW.out.trans ((box_below uz9 (.cells #[.int .i64 kx, .slice Ax nx cx, .slice Bx mx dx, .slice Cx px ex, .slice Ex qx sx, .int .i64 tx] 31)).mono LOW.out.size)
  have xo_ := XO.out.below (box_below uz9 (.cells #[.int .i64 kx, .slice Ax nx cx, .slice Bx mx dx, .slice Cx px ex, .slice Ex qx sx, .int .i64 tx] 31))
  have xr_ := XR.out.grow (box_below uz9 (.cells #[.int .i64 kx, .slice Ax nx cx, .slice Bx mx dx, .slice Cx px ex, .slice Ex qx sx, .int .i64 tx] 31))
  clear hz10 kc0 kf0 kc1 kf1
  go_upto_region 7 with fail
  generalize World.alloc _ _ = wb at kz11 low_ xo_ xr_ ⊢
  have LOW := Lib.hid low_
  clear low_
  have XO := Lib.hid xo_
  clear xo_
  have XR := Lib.hid xr_
  clear xr_
  obtain ⟨kc0, kf0, kc1, kf1, kc2, kf2, -⟩ := kz11.rd
  go_wp2_with fail
  have lb0 : uz9.heap.size < wb.heap.size := kz11.lt (x := (uz9.heap.size, 31, #[.int .i64 kx, .slice Ax nx cx, .slice Bx mx dx, .slice Cx px ex, .slice Ex qx sx, .int .i64 tx])) (by simp)
  refine (CI.out HX.out _ _ kz11.1 XR.out).mono ?_; rintro e uz12 ⟨cs, rfl, hq, b1⟩
  have hz13 := kz11.below b1
  obtain ⟨kg, Ag, ng, cg, Bg, mg, dg, Cg, pg, eg, Eg, qg, sg, tg, e1⟩ := hq.reads.six
  injection e1 with e1
  subst e1
  have hb2 : wb.heap.size ≤ uz12.heap.size := b1.size
  obtain ⟨base, hbase⟩ : ∃ n, n = wb.heap.size := ⟨_, rfl⟩
  rw [← hbase] at hq hb2 lb0
  have sinc := Since.refl base uz12
  have SG := Lib.hid sinc
  have HQ := Lib.hid hq
  have low_ := LOW.out.trans (b1.mono LOW.out.size)
  have xo_ := XO.out.below b1
  have xr_ := XR.out.grow b1
  clear LOW XO XR
  have LOW := Lib.hid low_
  have XO := Lib.hid xo_
  have XR := Lib.hid xr_
  clear kz11 b1 hq sinc hbase low_ xo_ xr_ kc0 kf0 kc1 kf1 kc2 kf2
  obtain ⟨kc0, kf0, kc1, kf1, kc2, kf2, -⟩ := hz13.rd
  have lkz14_0 : uz9.heap.size < uz12.heap.size := hz13.lt (x := (uz9.heap.size, 31, #[.int .i64 kx, .slice Ax nx cx, .slice Bx mx dx, .slice Cx px ex, .slice Ex qx sx, .int .i64 tx])) (by simp)
  have lkz14_1 : uz6.heap.size < uz12.heap.size := hz13.lt (x := (uz6.heap.size, 31, #[.int .i64 kw, .slice Aw nw cw, .slice Bw mw dw, .slice Cw pw ew, .slice Ew qw sw, .int .i64 tw])) (by simp)
  have lkz14_2 : w.heap.size < uz12.heap.size := hz13.lt (x := (w.heap.size, 48, #[.int .i64 x.key, .slice A x.counts.length c, .slice B x.trusts.length d, .slice C x.cells.length e, .slice E' x.slots.length s, .int .i64 x.count])) (by simp)
  have kz14 := hz13.put1 uz12.heap.size 31 #[.int .i64 kg, .slice Ag ng cg, .slice Bg mg dg, .slice Cg pg eg, .slice Eg qg sg, .int .i64 tg] rfl
  have low_ := LOW.out.trans ((box_below uz12 (.cells #[.int .i64 kg, .slice Ag ng cg, .slice Bg mg dg, .slice Cg pg eg, .slice Eg qg sg, .int .i64 tg] 31)).mono LOW.out.size)
  have xo_ := XO.out.below (box_below uz12 (.cells #[.int .i64 kg, .slice Ag ng cg, .slice Bg mg dg, .slice Cg pg eg, .slice Eg qg sg, .int .i64 tg] 31))
  have xr_ := XR.out.grow (box_below uz12 (.cells #[.int .i64 kg, .slice Ag ng cg, .slice Bg mg dg, .slice Cg pg eg, .slice Eg qg sg, .int .i64 tg] 31))
  have sg_ := SG.out.trans (Since.of_below (box_below uz12 (.cells #[.int .i64 kg, .slice Ag ng cg, .slice Bg mg dg, .slice Cg pg eg, .slice Eg qg sg, .int .i64 tg] 31)))
  clear hz13 kc0 kf0 kc1 kf1 kc2 kf2
  go_upto_region 8 with fail
  generalize World.alloc _ _ = wc at kz14 low_ xo_ xr_ sg_ ⊢
  have LOW := Lib.hid low_
  clear low_
  have XO := Lib.hid xo_
  clear xo_
  have XR := Lib.hid xr_
  clear xr_
  have SG := Lib.hid sg_
  clear sg_
  obtain ⟨kc0, kf0, kc1, kf1, kc2, kf2, kc3, kf3, -⟩ := kz14.rd
  go_wp2_with fail
  refine (QG.out HX.out _ _ _ (HQ.out.since SG.out).reads (HW.out.below LOW.out).reads).mono ?_; rintro e uz15 ⟨rfl, bz16⟩
  have hz17 := kz14.below bz16
  have low_ := LOW.out.trans (bz16.mono LOW.out.size)
  have xo_ := XO.out.below bz16
  have xr_ := XR.out.grow bz16
  have sg_ := SG.out.trans (Since.of_below bz16)
  clear kz14 bz16 LOW XO XR SG kc0 kf0 kc1 kf1 kc2 kf2 kc3 kf3
  have LOW := Lib.hid low_
  clear low_
  have XO := Lib.hid xo_
  clear xo_
  have XR := Lib.hid xr_
  clear xr_
  have SG := Lib.hid sg_
  clear sg_
  obtain ⟨kc0, kf0, kc1, kf1, kc2, kf2, kc3, kf3, -⟩ := hz17.rd
  go_upto_region 10 with fail
  have dr : Below uz15.heap.size uz15 uz15.drew := (Below.refl _ _).drew
  have Kz18 := Lib.hid hz17.drew
  clear hz17
  have low_ := LOW.out.trans (dr.mono LOW.out.size)
  have xo_ := XO.out.below dr
  have xr_ := XR.out.grow dr
  have sg_ := SG.out.trans (Since.of_below dr)
  clear LOW XO XR SG dr
  have LOW := Lib.hid low_
  clear low_
  have XO := Lib.hid xo_
  clear xo_
  have XR := Lib.hid xr_
  clear xr_
  have SG := Lib.hid sg_
  clear sg_
  go_region_with (first
    | (go_at_call 27; refine (T.out HX.out _ Kz18.out.1).mono ?_; rintro e wx ⟨v1, rfl, -, hrd, bfx⟩; have kfx := Kz18.out.below bfx; obtain ⟨mc0, mf0, mc1, mf1, mc2, mf2, mc3, mf3, -⟩ := kfx.rd; have FX := Lib.hid hrd; have FY := Lib.hid (RdG.grow XR.out bfx); have FB := Lib.hid bfx; clear kfx bfx hrd)
    | (go_at_call 28; refine (QX.out HX.out _ _ _ FY.out FX.out).mono ?_; rintro e wy ⟨rfl, hyb⟩; have GB := Lib.hid (FB.out.trans (hyb.mono FB.out.size)); clear hyb))
  all_goals
    have hz19 := Kz18.out.below GB.out
    have low_ := LOW.out.trans (GB.out.mono LOW.out.size)
    have xo_ := XO.out.below GB.out
    have xr_ := XR.out.grow GB.out
    have sg_ := SG.out.trans (Since.of_below GB.out)
    clear Kz18 LOW XO XR SG FB GB FX FY
    have LOW := Lib.hid low_
    clear low_
    have XO := Lib.hid xo_
    clear xo_
    have XR := Lib.hid xr_
    clear xr_
    have SG := Lib.hid sg_
    clear sg_
    go_upto_region 13 with fail
    obtain ⟨kc0, kf0, kc1, kf1, kc2, kf2, kc3, kf3, -⟩ := hz19.rd
    go_wp2_with fail
    have sy := hz19.1.size
    have sy2 := LOW.out.size
    have sy3 := SG.out.1
    refine (MX.out HX.out lo hi _ _ (by omega) XO.out).mono ?_; rintro e uz20 ⟨⟨z, rfl, hz⟩, hm⟩
    have hz21 := hz19.mid hm (by omega) (by omega) (by intro y hy; simp at hy; rcases hy with rfl | rfl | rfl | rfl <;> simp <;> omega)
    have low_ := below_mid LOW.out hm (by omega) (by omega)
    have sg_ := SG.out.mid hm (by omega)
    have hz2 : ¬ z < 0 := by omega
    clear LOW SG XO XR MX sy sy2 sy3 hm hz
    have LOW := Lib.hid low_
    have SG := Lib.hid sg_
    clear hz19 low_ sg_ kc0 kf0 kc1 kf1 kc2 kf2 kc3 kf3
    obtain ⟨kc0, kf0, kc1, kf1, kc2, kf2, kc3, kf3, -⟩ := hz21.rd
    go_wp2_with fail
    refine (QG.out HX.out _ _ _ (HQ.out.since SG.out).reads (HW.out.below LOW.out).reads).mono ?_; rintro e uz22 ⟨rfl, bz23⟩
    have hz24 := hz21.below bz23
    have low_ := LOW.out.trans (bz23.mono LOW.out.size)
    have sg_ := SG.out.trans (Since.of_below bz23)
    clear hz21 bz23 LOW SG kc0 kf0 kc1 kf1 kc2 kf2 kc3 kf3
    have LOW := Lib.hid low_
    clear low_
    have SG := Lib.hid sg_
    clear sg_
    obtain ⟨kc0, kf0, kc1, kf1, kc2, kf2, kc3, kf3, -⟩ := hz24.rd
    go_wp2_with fail
    have sy := hz24.1.size
    have sy2 := LOW.out.size
    have sy3 := SG.out.1
    refine (MG.out HX.out _ _ _ _ HQ.out SG.out).mono ?_; rintro e uz25 ⟨rfl, hh, hm⟩
    have hz26 := hz24.mid hm (by omega) (by omega) (by intro y hy; simp at hy; rcases hy with rfl | rfl | rfl | rfl <;> simp <;> omega)
    have low_ := below_mid LOW.out hm (by omega) (by omega)
    clear LOW SG HQ MG sy sy2 sy3 hm
    have LOW := Lib.hid low_
    have HH := Lib.hid hh
    clear hz24 low_ hh kc0 kf0 kc1 kf1 kc2 kf2 kc3 kf3
    obtain ⟨kc0, kf0, kc1, kf1, kc2, kf2, kc3, kf3, -⟩ := hz26.rd
    go_wp2_with fail
    refine (HG.out HX.out _ _ _ HH.out).mono ?_; rintro e uz27 ⟨rfl, bz28⟩
    have hz29 := hz26.below bz28
    have low_ := LOW.out.trans (bz28.mono LOW.out.size)
    have hh_ := HH.out.below bz28
    clear hz26 bz28 LOW HH kc0 kf0 kc1 kf1 kc2 kf2 kc3 kf3
    have LOW := Lib.hid low_
    clear low_
    have HH := Lib.hid hh_
    clear hh_
    obtain ⟨kc0, kf0, kc1, kf1, kc2, kf2, kc3, kf3, -⟩ := hz29.rd
    go_wp2_with fail
    refine (T.out HX.out _ hz29.1).mono ?_; rintro e uz30 ⟨v1, rfl, -, hrd, b1⟩
    have hz31 := hz29.below b1
    obtain ⟨kj, Aj, nj, cj, Bj, mj, dj, Cj, pj, ej, Ej, qj, sj, tj, rfl⟩ := hrd.six
    have HRD := Lib.hid hrd
    have low_ := LOW.out.trans (b1.mono LOW.out.size)
    have hh_ := HH.out.below b1
    clear LOW HH
    have LOW := Lib.hid low_
    have HH := Lib.hid hh_
    clear hz29 b1 hrd low_ hh_ kc0 kf0 kc1 kf1 kc2 kf2 kc3 kf3
    obtain ⟨kc0, kf0, kc1, kf1, kc2, kf2, kc3, kf3, -⟩ := hz31.rd
    go_wp2_with fail
    refine (CI.out HX.out _ _ hz31.1 HRD.out).mono ?_; rintro e uz32 ⟨cs, rfl, hq, b1⟩
    have hz33 := hz31.below b1
    obtain ⟨kh, Ah, nh, ch, Bh, mh, dh, Ch, ph, eh, Eh, qh, sh, th, e1⟩ := hq.reads.six
    injection e1 with e1
    subst e1
    have HR := Lib.hid hq.reads
    have low_ := LOW.out.trans (b1.mono LOW.out.size)
    have hh_ := HH.out.below b1
    clear LOW HH
    have LOW := Lib.hid low_
    have HH := Lib.hid hh_
    clear hz31 b1 hq HRD CI low_ hh_ kc0 kf0 kc1 kf1 kc2 kf2 kc3 kf3
    obtain ⟨kc0, kf0, kc1, kf1, kc2, kf2, kc3, kf3, -⟩ := hz33.rd
    have lkz34_0 : uz12.heap.size < uz32.heap.size := hz33.lt (x := (uz12.heap.size, 31, #[.int .i64 kg, .slice Ag ng cg, .slice Bg mg dg, .slice Cg pg eg, .slice Eg qg sg, .int .i64 tg])) (by simp)
    have lkz34_1 : uz9.heap.size < uz32.heap.size := hz33.lt (x := (uz9.heap.size, 31, #[.int .i64 kx, .slice Ax nx cx, .slice Bx mx dx, .slice Cx px ex, .slice Ex qx sx, .int .i64 tx])) (by simp)
    have lkz34_2 : uz6.heap.size < uz32.heap.size := hz33.lt (x := (uz6.heap.size, 31, #[.int .i64 kw, .slice Aw nw cw, .slice Bw mw dw, .slice Cw pw ew, .slice Ew qw sw, .int .i64 tw])) (by simp)
    have lkz34_3 : w.heap.size < uz32.heap.size := hz33.lt (x := (w.heap.size, 48, #[.int .i64 x.key, .slice A x.counts.length c, .slice B x.trusts.length d, .slice C x.cells.length e, .slice E' x.slots.length s, .int .i64 x.count])) (by simp)
    have kz34 := hz33.put1 uz32.heap.size 31 #[.int .i64 kh, .slice Ah nh ch, .slice Bh mh dh, .slice Ch ph eh, .slice Eh qh sh, .int .i64 th] rfl
    have low_ := LOW.out.trans ((box_below uz32 (.cells #[.int .i64 kh, .slice Ah nh ch, .slice Bh mh dh, .slice Ch ph eh, .slice Eh qh sh, .int .i64 th] 31)).mono LOW.out.size)
    have hh_ := HH.out.below (box_below uz32 (.cells #[.int .i64 kh, .slice Ah nh ch, .slice Bh mh dh, .slice Ch ph eh, .slice Eh qh sh, .int .i64 th] 31))
    have hr_ := HR.out.grow (box_below uz32 (.cells #[.int .i64 kh, .slice Ah nh ch, .slice Bh mh dh, .slice Ch ph eh, .slice Eh qh sh, .int .i64 th] 31))
    clear hz33 kc0 kf0 kc1 kf1 kc2 kf2 kc3 kf3
    go_upto_region 25 with fail
    generalize World.alloc _ _ = wd at kz34 low_ hh_ hr_ ⊢
    have LOW := Lib.hid low_
    clear low_
    have HH := Lib.hid hh_
    clear hh_
    have HR := Lib.hid hr_
    clear hr_
    obtain ⟨kc0, kf0, kc1, kf1, kc2, kf2, kc3, kf3, kc4, kf4, -⟩ := kz34.rd
    go_wp2_with fail
    refine (QG.out HX.out _ _ _ HR.out (HW.out.below LOW.out).reads).mono ?_; rintro e uz35 ⟨rfl, bz36⟩
    have hz37 := kz34.below bz36
    have hh_ := HH.out.below bz36
    clear kz34 bz36 HH kc0 kf0 kc1 kf1 kc2 kf2 kc3 kf3 kc4 kf4
    have HH := Lib.hid hh_
    clear hh_
    obtain ⟨kc0, kf0, kc1, kf1, kc2, kf2, kc3, kf3, kc4, kf4, -⟩ := hz37.rd
    go_wp2_with fail
    refine (HG.out HX.out _ _ _ HH.out).mono ?_; rintro e uz38 ⟨rfl, bz39⟩
    have hz40 := hz37.below bz39
    clear hz37 bz39 kc0 kf0 kc1 kf1 kc2 kf2 kc3 kf3 kc4 kf4
    have BZ := Lib.hid hz40.1
    clear hz40
    go_wp2_with fail
    go_ret
    exact ⟨rfl, BZ.out⟩
def IsRow (k : IntKind) (w : World) (a : Option Addr) (len cap : Nat) (zs : List Int) : Prop :=
  (a = none ∧ len = 0 ∧ cap = 0 ∧ zs = []) ∨
  ∃ x, a = some x ∧ len ≤ cap ∧ cap ≤ maxLen ∧ zs.length = cap ∧ (∀ i, i < zs.length → w.cell? (x.add i) = some (.int k (zs.getD i 0))) ∧ ∀ n ∈ zs, (Lit.int k n).wf = true
section
variable {H : Type} {enc : TypeId × Value → H} {P : Program} {w : World} {base : Nat} {spare : Nat → Bool} {held : Bool}
theorem int_of_trod {t : TypeId} {n : Nat} {v : Value} {y : DataW H × List MemPlace} (ht : P.underlying t = some (.int .i64)) (h : DataW.trod enc P w base spare held n t [v] = some y) : ∃ a, v = .int .i64 a ∧ I64 a := by
  obtain ⟨z, hc, hx, hw⟩ := DataW.trod_int ht h
  simp at hc
  exact ⟨z, hc, bounds_i64 hw⟩
end
open Go.ChangeShapes Go.WideShapes Go.ChangeAt Go.RowKit Go.Joins Go.Deep
section
variable {H : Type} {enc : TypeId × Value → H} {P : Program} {w : World} {base : Nat} {spare : Nat → Bool} {held : Bool}
theorem bool_of_trod {t : TypeId} {n : Nat} {v : Value} {y : DataW H × List MemPlace} (ht : P.underlying t = some .bool) (h : DataW.trod enc P w base spare held n t [v] = some y) : ∃ a, v = .bool a := by
  obtain ⟨b, hc, -⟩ := DataW.trod_bool ht h
  exact ⟨b, by simpa using hc⟩
end
def FitK (k : Option TypeDesc) (v : Value) : Prop := (k = some (.int .i64) ∧ ∃ n, v = .int .i64 n ∧ I64 n) ∨ (k = some .bool ∧ ∃ b, v = .bool b)
def FlatV (w : World) (n : Nat) (a : Option Addr) (len : Nat) (z : Nat → Value) : Prop :=
  ∀ k, k < len * n → ∃ b off, a = some ⟨b, off, none⟩ ∧ b < w.heap.size ∧ w.cell? ⟨b, off + k, none⟩ = some (z k)
theorem cell_atV {w : World} {x : Addr} {k : Nat} {v : Value} (h : w.cell? (x.add k) = some v) (h0 : w.cell? (x.add 0) ≠ none) : ∃ b off, x = ⟨b, off, none⟩ ∧ b < w.heap.size ∧ w.cell? ⟨b, off + k, none⟩ = some v := by
  obtain ⟨b, off, spot⟩ := x
  have hspot : spot = none := by
    cases hc : w.cell? ((⟨b, off, spot⟩ : Addr).add 0) with
    | none => exact absurd hc h0
    | some u => simpa [Addr.add] using World.cell?_spot hc
  subst hspot
  have hc : w.cell? ⟨b, off + k, none⟩ = some v := by
    by_cases hk : k = 0
    · subst hk; simpa [Addr.add] using h
    · simpa [Addr.add, hk] using h
  exact ⟨b, off, rfl, lt_of_cell hc, hc⟩
section
variable {H : Type} {enc : TypeId × Value → H} {P : Program} {w : World} {base : Nat} {held : Bool}
theorem flatV_of {t e : TypeId} {fs : Array Field} {n0 : Nat} {v : Value} {y : DataW H × List MemPlace} (ht : P.underlying t = some (.slice e)) (he : P.underlying e = some (.struct fs)) (hone : Deep.oneCellFields P fs = true) (hC : P.cellsOf e = fs.size)
    (hk : ∀ f ∈ fs.toList, P.underlying f.type = some (.int .i64) ∨ P.underlying f.type = some .bool) (h : DataW.trod enc P w base (fun _ => true) held n0 t [v] = some y) :
    ∃ a len cap, v = .slice a len cap ∧ len ≤ cap ∧ len ≤ maxLen ∧ ∃ z : Nat → Value, FlatV w fs.size a len z ∧ ∀ k, k < len * fs.size → ∀ f, fs[k % fs.size]? = some f → FitK (P.underlying f.type) (z k) := by
  rcases Deep.open_slice ht h with ⟨hcs, _⟩ | ⟨x, l, c, m, n, D, Pl, hcs, _, hl, hm, hmm, _, hi⟩
  · simp only [List.cons.injEq, and_true] at hcs
    exact ⟨none, 0, 0, hcs, Nat.le_refl _, Nat.zero_le _, fun _ => undef, fun k hk => absurd hk (by simp), fun k hk => absurd hk (by simp)⟩
  · simp only [List.cons.injEq, and_true] at hcs
    simp only [if_true] at hmm
    subst hmm
    have key : ∀ k, ∃ u : Value, k < m * fs.size → w.cell? (x.add k) = some u ∧ ∀ f, fs[k % fs.size]? = some f → FitK (P.underlying f.type) u := by
      intro k
      by_cases hk2 : k < m * fs.size
      · have hn : 0 < fs.size := by rcases Nat.eq_zero_or_pos fs.size with h0 | h0; · simp [h0] at hk2
                                    · exact h0
        have hj : k % fs.size < fs.size := Nat.mod_lt _ hn
        have hik : k / fs.size < m := Nat.div_lt_of_lt_mul (by rwa [Nat.mul_comm])
        obtain ⟨cs, hc, ht'⟩ := hi _ hik
        obtain ⟨ys, n', _, _, hlen, hyl, hfld⟩ := DataW.trod_struct he ht'
        obtain ⟨_, _, hat⟩ := World.cells?_some hc
        have hfj : fs[k % fs.size]? = some fs[k % fs.size] := Array.getElem?_eq_getElem hj
        obtain ⟨ho, h1⟩ := Deep.hone_of hone _ _ hfj
        have hT := hfld _ _ hfj
        rw [ho, h1] at hT
        have hlt : k % fs.size < cs.length := by omega
        rw [List.drop_eq_getElem_cons hlt, List.take_succ_cons, List.take_zero, List.getElem?_eq_getElem (by omega)] at hT
        refine ⟨cs[k % fs.size], fun _ => ⟨?_, fun f hf => ?_⟩⟩
        · have hcell := hat _ (show k % fs.size < P.cellsOf e by omega)
          rw [Deep.add_add, hC, Nat.mul_comm, Nat.div_add_mod] at hcell
          rw [hcell, List.getElem?_eq_getElem hlt]
        · rw [hfj] at hf
          injection hf with hf
          subst hf
          rcases hk _ (Array.getElem_mem_toList hj) with h2 | h2
          · obtain ⟨v, hv, hv64⟩ := int_of_trod h2 hT
            exact .inl ⟨h2, v, hv, hv64⟩
          · obtain ⟨b, hb⟩ := bool_of_trod h2 hT
            exact .inr ⟨h2, b, hb⟩
      · exact ⟨undef, fun h => absurd h hk2⟩
    obtain ⟨z, hz⟩ := Classical.axiomOfChoice key
    have hkm : ∀ k, k < l * fs.size → k < m * fs.size := fun k hk => Nat.lt_of_lt_of_le hk (Nat.mul_le_mul_right _ hl)
    refine ⟨some x, l, m, hcs, hl, Nat.le_trans hl hm, z, fun k hk => ?_, fun k hk => (hz k (hkm k hk)).2⟩
    obtain ⟨b, off, rfl, hb, hc⟩ := cell_atV (hz k (hkm k hk)).1 (by rw [(hz 0 (by have := hkm k hk; omega)).1]; simp)
    exact ⟨b, off, rfl, hb, hc⟩
end
def boolOf : Value → Bool | .bool b => b | _ => false
def truOf (z : Nat → Value) (len : Nat) : List Tru := (List.range len).map fun i => ⟨intOf (z (i * 8)), intOf (z (i * 8 + 1)), intOf (z (i * 8 + 2)), intOf (z (i * 8 + 3)), intOf (z (i * 8 + 4)), intOf (z (i * 8 + 5)), intOf (z (i * 8 + 6)), boolOf (z (i * 8 + 7))⟩
theorem truOf_len (z : Nat → Value) (len : Nat) : (truOf z len).length = len := by simp [truOf]
theorem truOf_get (z : Nat → Value) {len i : Nat} (h : i < len) : (truOf z len).getD i default = ⟨intOf (z (i * 8)), intOf (z (i * 8 + 1)), intOf (z (i * 8 + 2)), intOf (z (i * 8 + 3)), intOf (z (i * 8 + 4)), intOf (z (i * 8 + 5)), intOf (z (i * 8 + 6)), boolOf (z (i * 8 + 7))⟩ := by
  rw [List.getD_eq_getElem?_getD]; simp [truOf, h]
theorem int_fit {k : Option TypeDesc} {v : Value} (h : FitK k v) (hk : k = some (.int .i64)) : v = .int .i64 (intOf v) ∧ I64 (intOf v) := by
  rcases h with ⟨_, n, rfl, hn⟩ | ⟨h2, _⟩
  · exact ⟨rfl, hn⟩
  · rw [hk] at h2; cases h2
theorem bool_fit {k : Option TypeDesc} {v : Value} (h : FitK k v) (hk : k = some .bool) : v = .bool (boolOf v) := by
  rcases h with ⟨h2, _⟩ | ⟨_, b, rfl⟩
  · rw [hk] at h2; cases h2
  · rfl
def IsTrus (w : World) (a : Option Addr) (len cap : Nat) (L : List Tru) : Prop := Trs w w.heap.size a L ∧ L.length = len ∧ TrusI L ∧ len ≤ maxLen ∧ len ≤ cap
theorem istrus_of_flat {P : Program} {w : World} {a : Option Addr} {len cap : Nat} {fs : Array Field} (hks : fs.toList.map (fun f => P.underlying f.type) = [some (.int .i64), some (.int .i64), some (.int .i64), some (.int .i64), some (.int .i64), some (.int .i64), some (.int .i64), some .bool])
    (h : len ≤ cap ∧ len ≤ maxLen ∧ ∃ z : Nat → Value, FlatV w fs.size a len z ∧ ∀ k, k < len * fs.size → ∀ f, fs[k % fs.size]? = some f → FitK (P.underlying f.type) (z k)) : ∃ L, IsTrus w a len cap L := by
  obtain ⟨hl, hm, z, hz, hf⟩ := h
  have h8 : fs.size = 8 := by have := congrArg List.length hks; simpa using this
  rw [h8] at hz hf
  have hf2 : ∀ i j q, i < len → j < 8 → ([some (.int .i64), some (.int .i64), some (.int .i64), some (.int .i64), some (.int .i64), some (.int .i64), some (.int .i64), some .bool] : List (Option TypeDesc))[j]? = some q → FitK q (z (i * 8 + j)) := by
    intro i j q hi hj hq
    rw [← hks, List.getElem?_map] at hq
    obtain ⟨f, h1, h2⟩ := Option.map_eq_some_iff.1 hq
    rw [← h2]
    refine hf (i * 8 + j) (by omega) f ?_
    rw [show (i * 8 + j) % 8 = j by omega]
    simpa using h1
  refine ⟨truOf z len, fun i hi => ?_, truOf_len _ _, fun i hi => ?_, hm, hl⟩
  · rw [truOf_len] at hi
    rw [truOf_get z hi]
    obtain ⟨b, off, rfl, hb, c0⟩ := hz (i * 8) (by omega)
    refine ⟨b, off, rfl, hb, fun j hj => ?_⟩
    have hc : w.cell? ⟨b, off + (i * 8 + j), none⟩ = some (z (i * 8 + j)) := by
      obtain ⟨b', off', e1, _, c⟩ := hz (i * 8 + j) (by omega)
      simp only [Option.some.injEq, Addr.mk.injEq] at e1
      obtain ⟨rfl, rfl, -⟩ := e1
      exact c
    rw [show off + i * 8 + j = off + (i * 8 + j) by omega, hc]
    match j, hj with
    | 0, _ => exact congrArg some (int_fit (hf2 i 0 _ hi (by omega) rfl) rfl).1
    | 1, _ => exact congrArg some (int_fit (hf2 i 1 _ hi (by omega) rfl) rfl).1
    | 2, _ => exact congrArg some (int_fit (hf2 i 2 _ hi (by omega) rfl) rfl).1
    | 3, _ => exact congrArg some (int_fit (hf2 i 3 _ hi (by omega) rfl) rfl).1
    | 4, _ => exact congrArg some (int_fit (hf2 i 4 _ hi (by omega) rfl) rfl).1
    | 5, _ => exact congrArg some (int_fit (hf2 i 5 _ hi (by omega) rfl) rfl).1
    | 6, _ => exact congrArg some (int_fit (hf2 i 6 _ hi (by omega) rfl) rfl).1
    | 7, _ => exact congrArg some (bool_fit (hf2 i 7 _ hi (by omega) rfl) rfl)
  · rw [truOf_len] at hi
    rw [truOf_get z hi]
    have g := fun j q hj hq => hf2 i j q hi hj hq
    exact ⟨(int_fit (g 0 _ (by omega) rfl) rfl).2, (int_fit (g 1 _ (by omega) rfl) rfl).2, (int_fit (g 2 _ (by omega) rfl) rfl).2, (int_fit (g 3 _ (by omega) rfl) rfl).2, (int_fit (g 4 _ (by omega) rfl) rfl).2, (int_fit (g 5 _ (by omega) rfl) rfl).2, (int_fit (g 6 _ (by omega) rfl) rfl).2⟩
theorem istrus_of_field {P : Program} {w : World} {v : Value} {fs : Array Field} (hks : fs.toList.map (fun f => P.underlying f.type) = [some (.int .i64), some (.int .i64), some (.int .i64), some (.int .i64), some (.int .i64), some (.int .i64), some (.int .i64), some .bool])
    (h : ∃ a len cap, v = .slice a len cap ∧ len ≤ cap ∧ len ≤ maxLen ∧ ∃ z : Nat → Value, FlatV w fs.size a len z ∧ ∀ k, k < len * fs.size → ∀ f, fs[k % fs.size]? = some f → FitK (P.underlying f.type) (z k)) : ∃ a len cap L, v = .slice a len cap ∧ IsTrus w a len cap L := by
  obtain ⟨a, len, cap, e, r⟩ := h
  obtain ⟨L, hL⟩ := istrus_of_flat hks r
  exact ⟨a, len, cap, L, e, hL⟩
def celOf (z : Nat → Value) (len : Nat) : List Ce := (List.range len).map fun i => (intOf (z (i * 2)), intOf (z (i * 2 + 1)))
theorem celOf_len (z : Nat → Value) (len : Nat) : (celOf z len).length = len := by simp [celOf]
theorem celOf_get (z : Nat → Value) {len i : Nat} (h : i < len) : (celOf z len).getD i default = (intOf (z (i * 2)), intOf (z (i * 2 + 1))) := by
  rw [List.getD_eq_getElem?_getD]; simp [celOf, h]
def IsCels (w : World) (a : Option Addr) (len cap : Nat) (L : List Ce) : Prop := Cls w w.heap.size a L ∧ L.length = len ∧ (∀ i, i < L.length → I64 (L.getD i default).1 ∧ I64 (L.getD i default).2) ∧ len ≤ maxLen ∧ len ≤ cap
theorem iscels_of_flat {P : Program} {w : World} {a : Option Addr} {len cap : Nat} {fs : Array Field} (hks : fs.toList.map (fun f => P.underlying f.type) = [some (.int .i64), some (.int .i64)])
    (h : len ≤ cap ∧ len ≤ maxLen ∧ ∃ z : Nat → Value, FlatV w fs.size a len z ∧ ∀ k, k < len * fs.size → ∀ f, fs[k % fs.size]? = some f → FitK (P.underlying f.type) (z k)) : ∃ L, IsCels w a len cap L := by
  obtain ⟨hl, hm, z, hz, hf⟩ := h
  have h8 : fs.size = 2 := by have := congrArg List.length hks; simpa using this
  rw [h8] at hz hf
  have hf2 : ∀ i j q, i < len → j < 2 → ([some (.int .i64), some (.int .i64)] : List (Option TypeDesc))[j]? = some q → FitK q (z (i * 2 + j)) := by
    intro i j q hi hj hq
    rw [← hks, List.getElem?_map] at hq
    obtain ⟨f, h1, h2⟩ := Option.map_eq_some_iff.1 hq
    rw [← h2]
    refine hf (i * 2 + j) (by omega) f ?_
    rw [show (i * 2 + j) % 2 = j by omega]
    simpa using h1
  refine ⟨celOf z len, fun i hi => ?_, celOf_len _ _, fun i hi => ?_, hm, hl⟩
  · rw [celOf_len] at hi
    rw [celOf_get z hi]
    obtain ⟨b, off, rfl, hb, c0⟩ := hz (i * 2) (by omega)
    refine ⟨b, off, rfl, hb, fun j hj => ?_⟩
    have hc : w.cell? ⟨b, off + (i * 2 + j), none⟩ = some (z (i * 2 + j)) := by
      obtain ⟨b', off', e1, _, c⟩ := hz (i * 2 + j) (by omega)
      simp only [Option.some.injEq, Addr.mk.injEq] at e1
      obtain ⟨rfl, rfl, -⟩ := e1
      exact c
    rw [show off + i * 2 + j = off + (i * 2 + j) by omega, hc]
    match j, hj with
    | 0, _ => exact congrArg some (int_fit (hf2 i 0 _ hi (by omega) rfl) rfl).1
    | 1, _ => exact congrArg some (int_fit (hf2 i 1 _ hi (by omega) rfl) rfl).1
  · rw [celOf_len] at hi
    rw [celOf_get z hi]
    exact ⟨(int_fit (hf2 i 0 _ hi (by omega) rfl) rfl).2, (int_fit (hf2 i 1 _ hi (by omega) rfl) rfl).2⟩
theorem iscels_of_field {P : Program} {w : World} {v : Value} {fs : Array Field} (hks : fs.toList.map (fun f => P.underlying f.type) = [some (.int .i64), some (.int .i64)])
    (h : ∃ a len cap, v = .slice a len cap ∧ len ≤ cap ∧ len ≤ maxLen ∧ ∃ z : Nat → Value, FlatV w fs.size a len z ∧ ∀ k, k < len * fs.size → ∀ f, fs[k % fs.size]? = some f → FitK (P.underlying f.type) (z k)) : ∃ a len cap L, v = .slice a len cap ∧ IsCels w a len cap L := by
  obtain ⟨a, len, cap, e, r⟩ := h
  obtain ⟨L, hL⟩ := iscels_of_flat hks r
  exact ⟨a, len, cap, L, e, hL⟩
theorem kinds_of {P : Program} {fs : Array Field} {l : List (Option TypeDesc)} (hks : fs.toList.map (fun f => P.underlying f.type) = l) (hl : ∀ k ∈ l, k = some (.int .i64) ∨ k = some .bool) : ∀ f ∈ fs.toList, P.underlying f.type = some (.int .i64) ∨ P.underlying f.type = some .bool :=
  fun f hf => hl _ (hks ▸ List.mem_map_of_mem (f := fun f : Field => P.underlying f.type) hf)
section
variable {H : Type} {enc : TypeId × Value → H} {P : Program} {w : World} {base : Nat} {held : Bool}
theorem istrus_of_part {t e : TypeId} {fs : Array Field} {n0 : Nat} {v : Value} {y : DataW H × List MemPlace} (ht : P.underlying t = some (.slice e)) (he : P.underlying e = some (.struct fs)) (hone : Deep.oneCellFields P fs = true) (hC : P.cellsOf e = fs.size)
    (hks : fs.toList.map (fun f => P.underlying f.type) = [some (.int .i64), some (.int .i64), some (.int .i64), some (.int .i64), some (.int .i64), some (.int .i64), some (.int .i64), some .bool]) (h : DataW.trod enc P w base (fun _ => true) held n0 t [v] = some y) : ∃ a len cap L, v = .slice a len cap ∧ IsTrus w a len cap L :=
  istrus_of_field hks (flatV_of ht he hone hC (kinds_of hks (by simp)) h)
theorem iscels_of_part {t e : TypeId} {fs : Array Field} {n0 : Nat} {v : Value} {y : DataW H × List MemPlace} (ht : P.underlying t = some (.slice e)) (he : P.underlying e = some (.struct fs)) (hone : Deep.oneCellFields P fs = true) (hC : P.cellsOf e = fs.size)
    (hks : fs.toList.map (fun f => P.underlying f.type) = [some (.int .i64), some (.int .i64)]) (h : DataW.trod enc P w base (fun _ => true) held n0 t [v] = some y) : ∃ a len cap L, v = .slice a len cap ∧ IsCels w a len cap L :=
  iscels_of_field hks (flatV_of ht he hone hC (kinds_of hks (by simp)) h)
end
def SlotTy (P : Program) (t : TypeId) : Prop := ∃ (f0 f1 g0 g1 g2 : Field) (eT eC : TypeId) (fsT fsC : Array Field),
  P.underlying t = some (.struct #[f0, f1]) ∧ (f0.offset = 0 ∧ P.cellsOf f0.type = 3 ∧ f1.offset = 3 ∧ P.cellsOf f1.type = 1) ∧ P.cellsOf t = 4 ∧
  P.underlying f0.type = some (.struct #[g0, g1, g2]) ∧ (g0.offset = 0 ∧ P.cellsOf g0.type = 1 ∧ g1.offset = 1 ∧ P.cellsOf g1.type = 1 ∧ g2.offset = 2 ∧ P.cellsOf g2.type = 1) ∧
  P.underlying g0.type = some (.int .i64) ∧ P.underlying g2.type = some (.int .i64) ∧
  (P.underlying g1.type = some (.slice eT) ∧ P.underlying eT = some (.struct fsT) ∧ Deep.oneCellFields P fsT = true ∧ P.cellsOf eT = fsT.size ∧ fsT.toList.map (fun f => P.underlying f.type) = [some (.int .i64), some (.int .i64), some (.int .i64), some (.int .i64), some (.int .i64), some (.int .i64), some (.int .i64), some .bool]) ∧
  (P.underlying f1.type = some (.slice eC) ∧ P.underlying eC = some (.struct fsC) ∧ Deep.oneCellFields P fsC = true ∧ P.cellsOf eC = fsC.size ∧ fsC.toList.map (fun f => P.underlying f.type) = [some (.int .i64), some (.int .i64)])
theorem four_cells {cs : List Value} (h : cs.length = 4) : ∃ a b c d, cs = [a, b, c, d] := by
  match cs, h with
  | [a, b, c, d], _ => exact ⟨a, b, c, d, rfl⟩
theorem two_some {α : Type} {xs : List α} (h : xs.length = 2) : ∃ x y, xs[0]? = some x ∧ xs[1]? = some y := by
  match xs, h with
  | [x, y], _ => exact ⟨x, y, rfl, rfl⟩
theorem three_some {α : Type} {xs : List α} (h : xs.length = 3) : ∃ x y z, xs[0]? = some x ∧ xs[1]? = some y ∧ xs[2]? = some z := by
  match xs, h with
  | [x, y, z], _ => exact ⟨x, y, z, rfl, rfl, rfl⟩
section
variable {H : Type} {enc : TypeId × Value → H} {P : Program} {w : World} {base : Nat} {held : Bool}
theorem slot_of_cells {t : TypeId} {n0 : Nat} {cs : List Value} {y : DataW H × List MemPlace} (hT : SlotTy P t) (h : DataW.trod enc P w base (fun _ => true) held n0 t cs = some y) :
    ∃ (cnt : Int) (B : Option Addr) (nt tc : Nat) (L : List Tru) (mac : Int) (C : Option Addr) (nc cc : Nat) (M : List Ce), cs = [.int .i64 cnt, .slice B nt tc, .int .i64 mac, .slice C nc cc] ∧ I64 cnt ∧ I64 mac ∧ IsTrus w B nt tc L ∧ IsCels w C nc cc M := by
  obtain ⟨f0, f1, g0, g1, g2, eT, eC, fsT, fsC, hu, ⟨o0, c0, o1, c1⟩, h4, hs, ⟨p0, d0, p1, d1, p2, d2⟩, i0, i2, ⟨u1, u2, u3, u4, u5⟩, ⟨v1, v2, v3, v4, v5⟩⟩ := hT
  obtain ⟨xs, n1, _, _, hlen, hxl, hf⟩ := DataW.trod_struct hu h
  rw [h4] at hlen
  obtain ⟨a, b, c, d, rfl⟩ := four_cells hlen
  obtain ⟨x0, x1, e0, e1⟩ := two_some (show xs.length = 2 from hxl)
  have q0 := hf 0 f0 rfl
  have q1 := hf 1 f1 rfl
  rw [o0, c0, e0] at q0
  rw [o1, c1, e1] at q1
  simp only [List.drop_zero, List.take_succ_cons, List.take_zero, List.drop_succ_cons] at q0 q1
  obtain ⟨ys, n2, _, _, _, hyl, hg⟩ := DataW.trod_struct hs q0
  obtain ⟨y0, y1, y2, r0, r1, r2⟩ := three_some (show ys.length = 3 from hyl)
  have t0 := hg 0 g0 rfl
  have t1 := hg 1 g1 rfl
  have t2 := hg 2 g2 rfl
  rw [p0, d0, r0] at t0
  rw [p1, d1, r1] at t1
  rw [p2, d2, r2] at t2
  simp only [List.drop_zero, List.take_succ_cons, List.take_zero, List.drop_succ_cons] at t0 t1 t2
  obtain ⟨cnt, rfl, hc⟩ := int_of_trod i0 t0
  obtain ⟨mac, rfl, hm⟩ := int_of_trod i2 t2
  obtain ⟨B, nt, tc, L, rfl, hB⟩ := istrus_of_part u1 u2 u3 u4 u5 t1
  obtain ⟨C, nc, cc, M, rfl, hC⟩ := iscels_of_part v1 v2 v3 v4 v5 q1
  exact ⟨cnt, B, nt, tc, L, mac, C, nc, cc, M, rfl, hc, hm, hB, hC⟩
def SlN.In (s : SlN) : Prop := I64 s.count ∧ I64 s.mac ∧ TrusI s.trusts ∧ (∀ i, i < s.cells.length → I64 (s.cells.getD i default).1 ∧ I64 (s.cells.getD i default).2) ∧ s.trusts.length ≤ maxLen ∧ s.cells.length ≤ maxLen
def IsSlots (w : World) (a : Option Addr) (len cap : Nat) (S : List SlN) : Prop := Slots w w.heap.size a S ∧ S.length = len ∧ (∀ i, i < S.length → (S.getD i default).In) ∧ len ≤ maxLen ∧ len ≤ cap
theorem isslots_of_part {t e : TypeId} {n0 : Nat} {v : Value} {y : DataW H × List MemPlace} (ht : P.underlying t = some (.slice e)) (hT : SlotTy P e) (h : DataW.trod enc P w base (fun _ => true) held n0 t [v] = some y) :
    ∃ a len cap S, v = .slice a len cap ∧ IsSlots w a len cap S := by
  have h4 : P.cellsOf e = 4 := by obtain ⟨_, _, _, _, _, _, _, _, _, _, _, h4, _⟩ := hT; exact h4
  rcases Deep.open_slice ht h with ⟨hcs, _⟩ | ⟨x, l, c, m, n, D, Pl, hcs, _, hl, hm, hmm, _, hi⟩
  · simp only [List.cons.injEq, and_true] at hcs
    exact ⟨none, 0, 0, [], hcs, fun i hi => by simp at hi, rfl, fun i hi => by simp at hi, Nat.zero_le _, Nat.le_refl _⟩
  · simp only [List.cons.injEq, and_true] at hcs
    simp only [if_true] at hmm
    subst hmm
    have key : ∀ i, ∃ s : SlN, i < m → s.In ∧ ∃ b off, x = ⟨b, off, none⟩ ∧ b < w.heap.size ∧ SlotAt w w.heap.size b (off + i * 4) s := by
      intro i
      by_cases hk : i < m
      · obtain ⟨cs, hc, ht'⟩ := hi i hk
        obtain ⟨cnt, B, nt, tc, L, mac, C, nc, cc, M, rfl, h1, h2, ⟨hB, rfl, hBI, hB1, hB2⟩, ⟨hC, rfl, hCI, hC1, hC2⟩⟩ := slot_of_cells hT ht'
        obtain ⟨_, _, hat⟩ := World.cells?_some hc
        rw [h4] at hat
        obtain ⟨cs0, hc0, _⟩ := hi 0 (by omega)
        obtain ⟨_, hl0, hat0⟩ := World.cells?_some hc0
        rw [h4] at hat0 hl0
        have hz : w.cell? (x.add 0) ≠ none := by
          have := hat0 0 (by omega)
          rw [Deep.add_add, Nat.zero_mul, Nat.zero_add, List.getElem?_eq_getElem (by omega)] at this
          rw [this]; simp
        have hcell : ∀ j u, j < 4 → ([.int .i64 cnt, .slice B L.length tc, .int .i64 mac, .slice C M.length cc] : List Value)[j]? = some u → ∃ b off, x = ⟨b, off, none⟩ ∧ b < w.heap.size ∧ w.cell? ⟨b, off + (i * 4 + j), none⟩ = some u := by
          intro j u hj hu
          have := hat j hj
          rw [Deep.add_add, hu] at this
          exact cell_atV this hz
        obtain ⟨b, off, rfl, hb, k0⟩ := hcell 0 _ (by omega) rfl
        have kk : ∀ j u, j < 4 → ([.int .i64 cnt, .slice B L.length tc, .int .i64 mac, .slice C M.length cc] : List Value)[j]? = some u → w.cell? ⟨b, off + i * 4 + j, none⟩ = some u := by
          intro j u hj hu
          obtain ⟨b', off', e, _, hc⟩ := hcell j u hj hu
          simp only [Addr.mk.injEq] at e
          obtain ⟨rfl, rfl, -⟩ := e
          rw [Nat.add_assoc]; exact hc
        exact ⟨⟨cnt, L, mac, M⟩, fun _ => ⟨⟨h1, h2, hBI, hCI, hB1, hC1⟩, b, off, rfl, hb, B, tc, C, cc, kk 0 _ (by omega) rfl, kk 1 _ (by omega) rfl, kk 2 _ (by omega) rfl, kk 3 _ (by omega) rfl, hB, hC⟩⟩
      · exact ⟨default, fun h => absurd h hk⟩
    obtain ⟨z, hz⟩ := Classical.axiomOfChoice key
    have hlen : ((List.range l).map z).length = l := by simp
    have hget : ∀ i, i < l → ((List.range l).map z).getD i default = z i := fun i hi => by rw [List.getD_eq_getElem?_getD]; simp [hi]
    refine ⟨some x, l, m, (List.range l).map z, hcs, fun i hi => ?_, hlen, fun i hi => ?_, Nat.le_trans hl hm, hl⟩
    · rw [hlen] at hi
      rw [hget i hi]
      obtain ⟨_, b, off, rfl, hb, hs⟩ := hz i (by omega)
      exact ⟨b, off, rfl, hb, hs⟩
    · rw [hlen] at hi
      rw [hget i hi]
      exact (hz i (by omega)).1
end
section
variable {H : Type} {enc : TypeId × Value → H} {P : Program} {w : World} {base : Nat} {held : Bool}
theorem row_of_field {t e : TypeId} {k : IntKind} {n : Nat} {v : Value} {y : DataW H × List MemPlace} (ht : P.underlying t = some (.slice e)) (he : P.underlying e = some (.int k)) (hc : P.cellsOf e = 1)
    (h : DataW.trod enc P w base (fun _ => true) held n t [v] = some y) : ∃ a len cap zs, v = .slice a len cap ∧ IsRow k w a len cap zs := by
  rcases open_ints ht he hc h with ⟨hcs, _⟩ | ⟨x, l, c, zs, hcs, _, hl, hm, hz, _, hcell, hwz⟩
  · simp only [List.cons.injEq, and_true] at hcs
    exact ⟨none, 0, 0, [], hcs, .inl ⟨rfl, rfl, rfl, rfl⟩⟩
  · simp only [List.cons.injEq, and_true] at hcs
    exact ⟨some x, l, c, zs, hcs, .inr ⟨_, rfl, hl, hm, by simpa using hz, hcell, hwz⟩⟩
end
theorem IsRow.list {k : IntKind} {w : World} {a : Option Addr} {len cap : Nat} {zs : List Int} (h : IsRow k w a len cap zs) : ∃ l : List Int, len = l.length ∧ Ints w k w.heap.size a l ∧ l.length ≤ maxLen ∧ l.length ≤ cap := by
  rcases h with ⟨rfl, rfl, rfl, rfl⟩ | ⟨x, rfl, hl, hm, hz, hcell, hwz⟩
  · exact ⟨[], rfl, Ints.nil, by simp [maxLen], Nat.le_refl _⟩
  · have hlen : (zs.take len).length = len := by rw [List.length_take]; omega
    exact ⟨zs.take len, hlen.symm, ints_of_row (by omega) hcell, by omega, by omega⟩
end Go.Proofs.YtgaecedhkbneaaaGreatDoor.Mx

import Derived.Test.YteoijmejhdocdaaGreatDoorG24
import Derived.Test.YteoijmejhdocdaaGreatDoorG26
namespace Go.Proofs.YteoijmejhdocdaaGreatDoor.Mx
open Go.ChangeShapes Go.WideShapes Go.ChangeAt Go.RowKit
set_option linter.unusedVariables false
theorem saveG_short {x : VolG} (hi : x.Int64) (a : Int) : QShort (saveG x a).1 := by
  unfold saveG
  split
  · rename_i h
    exact QShort.of fun y e => by
      injection e with e
      exact e ▸ saveVol_inv (VolG.inv hi h).2 a
  · intro y e; cases e
theorem fallG_short {x : VolG} (hi : x.Int64) : QShort (fallG x ).1 := by
  unfold fallG
  split
  · rename_i h
    exact QShort.of fun y e => by
      injection e with e
      exact e ▸ fallVol_inv (VolG.inv hi h).2 
  · intro y e; cases e
theorem spoilG_short {x : VolG} (hi : x.Int64) (a : Int) : QShort (spoilG x a).1 := by
  unfold spoilG
  split
  · rename_i h
    exact QShort.of fun y e => by
      injection e with e
      exact e ▸ spoilVol_inv (VolG.inv hi h).2 a
  · intro y e; cases e
def AnsSavedTo (E : World → Prop) : Prop := ∀ (x : VolG) (v : Value) (w : World) (a : Int), x.Short → x.Int64 → RdG w w.heap.size x v → E w → 
  Calls Tryz.prog 27 #[v, .int .i64 a] w (Ans2 w (saveG x a))
set_option maxRecDepth 20000 in
set_option maxHeartbeats 16000000 in
theorem savedToLaw_calls (E : World → Prop) (H : AnsSavedTo E) (x : VolG) (v : Value) (a : Int) (w : World) (hE : ∀ u, Below w.heap.size w u → E u) (h : LawVol w x v) :
    Calls Tryz.prog 5 #[v, .int .i64 a] w fun e w' => e = .returned (.bool true) ∧ Below w.heap.size w w' := by
  obtain ⟨hr, hi, m1, m2, m3, m4, m5⟩ := h
  have XSH := Lib.hid (fun (hx : x.Short) => hx)
  have T := Lib.hid (fun (hx : x.Short) (u : World) (hb : Below w.heap.size w u) => toVolume_calls x v u hx ((hr.below hb (Nat.le_refl _)).more hb.size))
  have SP := Lib.hid (fun (hx : x.Short) (v : Value) (u : World) (h : RdG u u.heap.size x v) => savedToG_calls x v a u hx (hi hx) h)
  have CI := Lib.hid (fun (hx : x.Short) (v : Value) (u : World) (hb : Below w.heap.size w u) (h : RdG u u.heap.size x v) => H x v u a hx (hi hx) h (hE u hb))
  have QS := Lib.hid (fun (hx : x.Short) => saveG_short (hi hx) a)
  have SZ := Lib.hid (fun (A : Option Addr) (c : Nat) (B : Option Addr) (d : Nat) (C : Option Addr) (e : Nat) (E : Option Addr) (s : Nat) (u : World) (hE : Slots u u.heap.size E x.slots) => szVolume_calls x A c B d C e E s u m1 m2 m3 m4 hE m5)
  have QX := Lib.hid (fun (hx : x.Short) (v v' : Value) (u : World) (h : RdG u u.heap.size x v) (h' : RdG u u.heap.size x v') => eqVolume_same x v v' u hx h h')
  have MX := Lib.hid (fun (hx : x.Short) (lo hi : Nat) (v : Value) (u : World) (hiu : hi ≤ u.heap.size) (h : OwnG u lo hi x v) => markVolume_mid lo hi x v u hx hiu h)
  generalize saveG x a = R at SP CI QS
  obtain ⟨o, p⟩ := R
  have QG := Lib.hid (fun (hx : x.Short) (v v' : Value) (u : World) (h : RdG u u.heap.size (optG o) v) (h' : RdG u u.heap.size (optG o) v') => eqVolume_same (optG o) v v' u (QS.out hx).g h h')
  have MG := Lib.hid (fun (hx : x.Short) (base : Nat) (v : Value) (w0 u : World) (h : VolQ w0 base o v) (hs : Since base w0 u) => markVolumeQ_calls base o v w0 u (QS.out hx) h hs)
  have HG := Lib.hid (fun (hx : x.Short) (base : Nat) (v : Value) (u : World) (h : HeldQ u base o v) => heldVolumeQ_calls base o v u (QS.out hx) h)
  have HQM := Lib.hid (fun (hx : x.Short) => show ¬ qMarks o < 0 from by
    have h0 : 0 ≤ qMarks o := qMarks_pos (QS.out hx)
    omega)
  generalize qMarks o = qm at MG HG HQM
  have hqq : (qm != qm) = false := by simp
  have hp : (p != p) = false := by simp
  obtain ⟨A, c, B, d, C, e, E', s, rfl, i1, i2, i3, i4, -⟩ := hr
  have I4 := Lib.hid i4
  clear i1 i2 i3 i4 hi m1 m2 m3 m4 m5 H hE QS
  have K0 := Lib.hid (show Kept w [(w.heap.size, 64, #[.int .i64 x.key, .slice A x.counts.length c, .slice B x.trusts.length d, .slice C x.cells.length e, .slice E' x.slots.length s, .int .i64 x.count])] _ from ((Kept.refl w).put1 _ _ #[.int .i64 x.key, .slice A x.counts.length c, .slice B x.trusts.length d, .slice C x.cells.length e, .slice E' x.slots.length s, .int .i64 x.count] rfl))
  go_enter Tryz.func5, Tryz.ntmps5
  go_wp2_with fail
  have k0 := K0.out
  clear K0
  obtain ⟨kc0, kf0, -⟩ := k0.rd
  go_wp2_with fail
  refine (SZ.out A c B d C e E' s _ ((I4.out.below k0.1 (Nat.le_refl _)).more k0.1.size)).mono ?_; rintro e uz1 ⟨r, rfl, hr, bz2⟩
  have hz3 := k0.below bz2
  clear k0 bz2 kc0 kf0
  obtain ⟨kc0, kf0, -⟩ := hz3.rd
  clear I4 SZ
  rcases hr with rfl | ⟨r0, hx⟩
  · have B1 := Lib.hid hz3.1
    clear hz3
    go_wp2_with fail
    go_ret
    exact ⟨rfl, B1.out⟩
  have hr : ¬ r < 0 := by omega
  have HX := Lib.hid hx
  have hqm := HQM.out hx
  clear hx
  go_wp2_with fail
  refine (T.out HX.out _ hz3.1).mono ?_; rintro e uz4 ⟨v1, rfl, -, hrd, b1⟩
  have hz5 := hz3.below b1
  obtain ⟨kv, Av, nv, cv, Bv, mv, dv, Cv, pv, ev, Ev, qv, sv, tv, rfl⟩ := hrd.six
  have HRD := Lib.hid hrd
  clear hz3 b1 hrd kc0 kf0
  obtain ⟨kc0, kf0, -⟩ := hz5.rd
  go_wp2_with fail
  refine (SP.out HX.out _ _ HRD.out).mono ?_; rintro e uz6 ⟨cs, rfl, hq, b1⟩
  have hz7 := hz5.below b1
  obtain ⟨kw, Aw, nw, cw, Bw, mw, dw, Cw, pw, ew, Ew, qw, sw, tw, e1⟩ := hq.reads.six
  injection e1 with e1
  subst e1
  have HW := Lib.hid hq
  have bw0 := Below.refl uz6.heap.size uz6
  have LOW := Lib.hid bw0
  clear hz5 b1 hq HRD SP bw0 kc0 kf0
  obtain ⟨kc0, kf0, -⟩ := hz7.rd
  have lkz8_0 : w.heap.size < uz6.heap.size := hz7.lt (x := (w.heap.size, 64, #[.int .i64 x.key, .slice A x.counts.length c, .slice B x.trusts.length d, .slice C x.cells.length e, .slice E' x.slots.length s, .int .i64 x.count])) (by simp)
  have kz8 := hz7.put1 uz6.heap.size 31 #[.int .i64 kw, .slice Aw nw cw, .slice Bw mw dw, .slice Cw pw ew, .slice Ew qw sw, .int .i64 tw] rfl
  have low_ := LOW.out.trans ((box_below uz6 (.cells #[.int .i64 kw, .slice Aw nw cw, .slice Bw mw dw, .slice Cw pw ew, .slice Ew qw sw, .int .i64 tw] 31)).mono LOW.out.size)
  clear hz7 kc0 kf0
  go_upto_region 6 with fail
  generalize World.alloc _ _ = wa at kz8 low_ ⊢
  have LOW := Lib.hid low_
  clear low_
  obtain ⟨kc0, kf0, kc1, kf1, -⟩ := kz8.rd
  go_wp2_with fail
  have la0 : uz6.heap.size < wa.heap.size := kz8.lt (x := (uz6.heap.size, 31, #[.int .i64 kw, .slice Aw nw cw, .slice Bw mw dw, .slice Cw pw ew, .slice Ew qw sw, .int .i64 tw])) (by simp)
  have la1 : w.heap.size < wa.heap.size := kz8.lt (x := (w.heap.size, 64, #[.int .i64 x.key, .slice A x.counts.length c, .slice B x.trusts.length d, .slice C x.cells.length e, .slice E' x.slots.length s, .int .i64 x.count])) (by simp)
  obtain ⟨lo, hlo⟩ : ∃ n, n = wa.heap.size := ⟨_, rfl⟩
  refine (T.out HX.out _ kz8.1).mono ?_; rintro e uz9 ⟨v1, rfl, hown, hrd, b1⟩
  have hz10 := kz8.below b1
  obtain ⟨kx, Ax, nx, cx, Bx, mx, dx, Cx, px, ex, Ex, qx, sx, tx, rfl⟩ := hrd.six
  have hi0 : lo ≤ uz9.heap.size := by rw [hlo]; exact b1.size
  obtain ⟨hi, hhi⟩ : ∃ n, n = uz9.heap.size := ⟨_, rfl⟩
  rw [← hlo, ← hhi] at hown
  rw [← hlo] at la0 la1
  have low_ := LOW.out.trans (b1.mono LOW.out.size)
  clear LOW
  have LOW := Lib.hid low_
  have XO := Lib.hid hown
  have XR := Lib.hid hrd
  clear kz8 b1 hrd hown low_ hlo kc0 kf0 kc1 kf1
  obtain ⟨kc0, kf0, kc1, kf1, -⟩ := hz10.rd
  have lkz11_0 : uz6.heap.size < uz9.heap.size := hz10.lt (x := (uz6.heap.size, 31, #[.int .i64 kw, .slice Aw nw cw, .slice Bw mw dw, .slice Cw pw ew, .slice Ew qw sw, .int .i64 tw])) (by simp)
  have lkz11_1 : w.heap.size < uz9.heap.size := hz10.lt (x := (w.heap.size, 64, #[.int .i64 x.key, .slice A x.counts.length c, .slice B x.trusts.length d, .slice C x.cells.length e, .slice E' x.slots.length s, .int .i64 x.count])) (by simp)
  have kz11 := hz10.put1 uz9.heap.size 31 #[.int .i64 kx, .slice Ax nx cx, .slice Bx mx dx, .slice Cx px ex, .slice Ex qx sx, .int .i64 tx] rfl
  have low_ := LOW.out.trans ((box_below uz9 (.cells #[.int .i64 kx, .slice Ax nx cx, .slice Bx mx dx, .slice Cx px ex, .slice Ex qx sx, .int .i64 tx] 31)).mono LOW.out.size)
  have xo_ := XO.out.below (box_below uz9 (.cells #[.int .i64 kx, .slice Ax nx cx, .slice Bx mx dx, .slice Cx px ex, .slice Ex qx sx, .int .i64 tx] 31))
  have xr_ := XR.out.grow (box_below uz9 (.cells #[.int .i64 kx, .slice Ax nx cx, .slice Bx mx dx, .slice Cx px ex, .slice Ex qx sx, .int .i64 tx] 31))
  clear hz10 kc0 kf0 kc1 kf1
  go_upto_region 7 with fail
  generalize World.alloc _ _ = wb at kz11 low_ xo_ xr_ ⊢
  have LOW := Lib.hid low_
  clear low_
  have XO := Lib.hid xo_
  clear xo_
  have XR := Lib.hid xr_
  clear xr_
  obtain ⟨kc0, kf0, kc1, kf1, kc2, kf2, -⟩ := kz11.rd
  go_wp2_with fail
  have lb0 : uz9.heap.size < wb.heap.size := kz11.lt (x := (uz9.heap.size, 31, #[.int .i64 kx, .slice Ax nx cx, .slice Bx mx dx, .slice Cx px ex, .slice Ex qx sx, .int .i64 tx])) (by simp)
  refine (CI.out HX.out _ _ kz11.1 XR.out).mono ?_; rintro e uz12 ⟨cs, rfl, hq, b1⟩
  have hz13 := kz11.below b1
  obtain ⟨kg, Ag, ng, cg, Bg, mg, dg, Cg, pg, eg, Eg, qg, sg, tg, e1⟩ := hq.reads.six
  injection e1 with e1
  subst e1
  have hb2 : wb.heap.size ≤ uz12.heap.size := b1.size
  obtain ⟨base, hbase⟩ : ∃ n, n = wb.heap.size := ⟨_, rfl⟩
  rw [← hbase] at hq hb2 lb0
  have sinc := Since.refl base uz12
  have SG := Lib.hid sinc
  have HQ := Lib.hid hq
  have low_ := LOW.out.trans (b1.mono LOW.out.size)
  have xo_ := XO.out.below b1
  have xr_ := XR.out.grow b1
  clear LOW XO XR
  have LOW := Lib.hid low_
  have XO := Lib.hid xo_
  have XR := Lib.hid xr_
  clear kz11 b1 hq sinc hbase low_ xo_ xr_ kc0 kf0 kc1 kf1 kc2 kf2
  obtain ⟨kc0, kf0, kc1, kf1, kc2, kf2, -⟩ := hz13.rd
  have lkz14_0 : uz9.heap.size < uz12.heap.size := hz13.lt (x := (uz9.heap.size, 31, #[.int .i64 kx, .slice Ax nx cx, .slice Bx mx dx, .slice Cx px ex, .slice Ex qx sx, .int .i64 tx])) (by simp)
  have lkz14_1 : uz6.heap.size < uz12.heap.size := hz13.lt (x := (uz6.heap.size, 31, #[.int .i64 kw, .slice Aw nw cw, .slice Bw mw dw, .slice Cw pw ew, .slice Ew qw sw, .int .i64 tw])) (by simp)
  have lkz14_2 : w.heap.size < uz12.heap.size := hz13.lt (x := (w.heap.size, 64, #[.int .i64 x.key, .slice A x.counts.length c, .slice B x.trusts.length d, .slice C x.cells.length e, .slice E' x.slots.length s, .int .i64 x.count])) (by simp)
  have kz14 := hz13.put1 uz12.heap.size 31 #[.int .i64 kg, .slice Ag ng cg, .slice Bg mg dg, .slice Cg pg eg, .slice Eg qg sg, .int .i64 tg] rfl
  have low_ := LOW.out.trans ((box_below uz12 (.cells #[.int .i64 kg, .slice Ag ng cg, .slice Bg mg dg, .slice Cg pg eg, .slice Eg qg sg, .int .i64 tg] 31)).mono LOW.out.size)
  have xo_ := XO.out.below (box_below uz12 (.cells #[.int .i64 kg, .slice Ag ng cg, .slice Bg mg dg, .slice Cg pg eg, .slice Eg qg sg, .int .i64 tg] 31))
  have xr_ := XR.out.grow (box_below uz12 (.cells #[.int .i64 kg, .slice Ag ng cg, .slice Bg mg dg, .slice Cg pg eg, .slice Eg qg sg, .int .i64 tg] 31))
  have sg_ := SG.out.trans (Since.of_below (box_below uz12 (.cells #[.int .i64 kg, .slice Ag ng cg, .slice Bg mg dg, .slice Cg pg eg, .slice Eg qg sg, .int .i64 tg] 31)))
  clear hz13 kc0 kf0 kc1 kf1 kc2 kf2
  go_upto_region 8 with fail
  generalize World.alloc _ _ = wc at kz14 low_ xo_ xr_ sg_ ⊢
  have LOW := Lib.hid low_
  clear low_
  have XO := Lib.hid xo_
  clear xo_
  have XR := Lib.hid xr_
  clear xr_
  have SG := Lib.hid sg_
  clear sg_
  obtain ⟨kc0, kf0, kc1, kf1, kc2, kf2, kc3, kf3, -⟩ := kz14.rd
  go_wp2_with fail
  refine (QG.out HX.out _ _ _ (HQ.out.since SG.out).reads (HW.out.below LOW.out).reads).mono ?_; rintro e uz15 ⟨rfl, bz16⟩
  have hz17 := kz14.below bz16
  have low_ := LOW.out.trans (bz16.mono LOW.out.size)
  have xo_ := XO.out.below bz16
  have xr_ := XR.out.grow bz16
  have sg_ := SG.out.trans (Since.of_below bz16)
  clear kz14 bz16 LOW XO XR SG kc0 kf0 kc1 kf1 kc2 kf2 kc3 kf3
  have LOW := Lib.hid low_
  clear low_
  have XO := Lib.hid xo_
  clear xo_
  have XR := Lib.hid xr_
  clear xr_
  have SG := Lib.hid sg_
  clear sg_
  obtain ⟨kc0, kf0, kc1, kf1, kc2, kf2, kc3, kf3, -⟩ := hz17.rd
  go_upto_region 10 with fail
  have dr : Below uz15.heap.size uz15 uz15.drew := (Below.refl _ _).drew
  have Kz18 := Lib.hid hz17.drew
  clear hz17
  have low_ := LOW.out.trans (dr.mono LOW.out.size)
  have xo_ := XO.out.below dr
  have xr_ := XR.out.grow dr
  have sg_ := SG.out.trans (Since.of_below dr)
  clear LOW XO XR SG dr
  have LOW := Lib.hid low_
  clear low_
  have XO := Lib.hid xo_
  clear xo_
  have XR := Lib.hid xr_
  clear xr_
  have SG := Lib.hid sg_
  clear sg_
  go_region_with (first
    | (go_at_call 42; refine (T.out HX.out _ Kz18.out.1).mono ?_; rintro e wx ⟨v1, rfl, -, hrd, bfx⟩; have kfx := Kz18.out.below bfx; obtain ⟨mc0, mf0, mc1, mf1, mc2, mf2, mc3, mf3, -⟩ := kfx.rd; have FX := Lib.hid hrd; have FY := Lib.hid (RdG.grow XR.out bfx); have FB := Lib.hid bfx; clear kfx bfx hrd)
    | (go_at_call 43; refine (QX.out HX.out _ _ _ FY.out FX.out).mono ?_; rintro e wy ⟨rfl, hyb⟩; have GB := Lib.hid (FB.out.trans (hyb.mono FB.out.size)); clear hyb))
  all_goals
    have hz19 := Kz18.out.below GB.out
    have low_ := LOW.out.trans (GB.out.mono LOW.out.size)
    have xo_ := XO.out.below GB.out
    have xr_ := XR.out.grow GB.out
    have sg_ := SG.out.trans (Since.of_below GB.out)
    clear Kz18 LOW XO XR SG FB GB FX FY
    have LOW := Lib.hid low_
    clear low_
    have XO := Lib.hid xo_
    clear xo_
    have XR := Lib.hid xr_
    clear xr_
    have SG := Lib.hid sg_
    clear sg_
    go_upto_region 13 with fail
    obtain ⟨kc0, kf0, kc1, kf1, kc2, kf2, kc3, kf3, -⟩ := hz19.rd
    go_wp2_with fail
    have sy := hz19.1.size
    have sy2 := LOW.out.size
    have sy3 := SG.out.1
    refine (MX.out HX.out lo hi _ _ (by omega) XO.out).mono ?_; rintro e uz20 ⟨⟨z, rfl, hz⟩, hm⟩
    have hz21 := hz19.mid hm (by omega) (by omega) (by intro y hy; simp at hy; rcases hy with rfl | rfl | rfl | rfl <;> simp <;> omega)
    have low_ := below_mid LOW.out hm (by omega) (by omega)
    have sg_ := SG.out.mid hm (by omega)
    have hz2 : ¬ z < 0 := by omega
    clear LOW SG XO XR MX sy sy2 sy3 hm hz
    have LOW := Lib.hid low_
    have SG := Lib.hid sg_
    clear hz19 low_ sg_ kc0 kf0 kc1 kf1 kc2 kf2 kc3 kf3
    obtain ⟨kc0, kf0, kc1, kf1, kc2, kf2, kc3, kf3, -⟩ := hz21.rd
    go_wp2_with fail
    refine (QG.out HX.out _ _ _ (HQ.out.since SG.out).reads (HW.out.below LOW.out).reads).mono ?_; rintro e uz22 ⟨rfl, bz23⟩
    have hz24 := hz21.below bz23
    have low_ := LOW.out.trans (bz23.mono LOW.out.size)
    have sg_ := SG.out.trans (Since.of_below bz23)
    clear hz21 bz23 LOW SG kc0 kf0 kc1 kf1 kc2 kf2 kc3 kf3
    have LOW := Lib.hid low_
    clear low_
    have SG := Lib.hid sg_
    clear sg_
    obtain ⟨kc0, kf0, kc1, kf1, kc2, kf2, kc3, kf3, -⟩ := hz24.rd
    go_wp2_with fail
    have sy := hz24.1.size
    have sy2 := LOW.out.size
    have sy3 := SG.out.1
    refine (MG.out HX.out _ _ _ _ HQ.out SG.out).mono ?_; rintro e uz25 ⟨rfl, hh, hm⟩
    have hz26 := hz24.mid hm (by omega) (by omega) (by intro y hy; simp at hy; rcases hy with rfl | rfl | rfl | rfl <;> simp <;> omega)
    have low_ := below_mid LOW.out hm (by omega) (by omega)
    clear LOW SG HQ MG sy sy2 sy3 hm
    have LOW := Lib.hid low_
    have HH := Lib.hid hh
    clear hz24 low_ hh kc0 kf0 kc1 kf1 kc2 kf2 kc3 kf3
    obtain ⟨kc0, kf0, kc1, kf1, kc2, kf2, kc3, kf3, -⟩ := hz26.rd
    go_wp2_with fail
    refine (HG.out HX.out _ _ _ HH.out).mono ?_; rintro e uz27 ⟨rfl, bz28⟩
    have hz29 := hz26.below bz28
    have low_ := LOW.out.trans (bz28.mono LOW.out.size)
    have hh_ := HH.out.below bz28
    clear hz26 bz28 LOW HH kc0 kf0 kc1 kf1 kc2 kf2 kc3 kf3
    have LOW := Lib.hid low_
    clear low_
    have HH := Lib.hid hh_
    clear hh_
    obtain ⟨kc0, kf0, kc1, kf1, kc2, kf2, kc3, kf3, -⟩ := hz29.rd
    go_wp2_with fail
    refine (T.out HX.out _ hz29.1).mono ?_; rintro e uz30 ⟨v1, rfl, -, hrd, b1⟩
    have hz31 := hz29.below b1
    obtain ⟨kj, Aj, nj, cj, Bj, mj, dj, Cj, pj, ej, Ej, qj, sj, tj, rfl⟩ := hrd.six
    have HRD := Lib.hid hrd
    have low_ := LOW.out.trans (b1.mono LOW.out.size)
    have hh_ := HH.out.below b1
    clear LOW HH
    have LOW := Lib.hid low_
    have HH := Lib.hid hh_
    clear hz29 b1 hrd low_ hh_ kc0 kf0 kc1 kf1 kc2 kf2 kc3 kf3
    obtain ⟨kc0, kf0, kc1, kf1, kc2, kf2, kc3, kf3, -⟩ := hz31.rd
    go_wp2_with fail
    refine (CI.out HX.out _ _ hz31.1 HRD.out).mono ?_; rintro e uz32 ⟨cs, rfl, hq, b1⟩
    have hz33 := hz31.below b1
    obtain ⟨kh, Ah, nh, ch, Bh, mh, dh, Ch, ph, eh, Eh, qh, sh, th, e1⟩ := hq.reads.six
    injection e1 with e1
    subst e1
    have HR := Lib.hid hq.reads
    have low_ := LOW.out.trans (b1.mono LOW.out.size)
    have hh_ := HH.out.below b1
    clear LOW HH
    have LOW := Lib.hid low_
    have HH := Lib.hid hh_
    clear hz31 b1 hq HRD CI low_ hh_ kc0 kf0 kc1 kf1 kc2 kf2 kc3 kf3
    obtain ⟨kc0, kf0, kc1, kf1, kc2, kf2, kc3, kf3, -⟩ := hz33.rd
    have lkz34_0 : uz12.heap.size < uz32.heap.size := hz33.lt (x := (uz12.heap.size, 31, #[.int .i64 kg, .slice Ag ng cg, .slice Bg mg dg, .slice Cg pg eg, .slice Eg qg sg, .int .i64 tg])) (by simp)
    have lkz34_1 : uz9.heap.size < uz32.heap.size := hz33.lt (x := (uz9.heap.size, 31, #[.int .i64 kx, .slice Ax nx cx, .slice Bx mx dx, .slice Cx px ex, .slice Ex qx sx, .int .i64 tx])) (by simp)
    have lkz34_2 : uz6.heap.size < uz32.heap.size := hz33.lt (x := (uz6.heap.size, 31, #[.int .i64 kw, .slice Aw nw cw, .slice Bw mw dw, .slice Cw pw ew, .slice Ew qw sw, .int .i64 tw])) (by simp)
    have lkz34_3 : w.heap.size < uz32.heap.size := hz33.lt (x := (w.heap.size, 64, #[.int .i64 x.key, .slice A x.counts.length c, .slice B x.trusts.length d, .slice C x.cells.length e, .slice E' x.slots.length s, .int .i64 x.count])) (by simp)
    have kz34 := hz33.put1 uz32.heap.size 31 #[.int .i64 kh, .slice Ah nh ch, .slice Bh mh dh, .slice Ch ph eh, .slice Eh qh sh, .int .i64 th] rfl
    have low_ := LOW.out.trans ((box_below uz32 (.cells #[.int .i64 kh, .slice Ah nh ch, .slice Bh mh dh, .slice Ch ph eh, .slice Eh qh sh, .int .i64 th] 31)).mono LOW.out.size)
    have hh_ := HH.out.below (box_below uz32 (.cells #[.int .i64 kh, .slice Ah nh ch, .slice Bh mh dh, .slice Ch ph eh, .slice Eh qh sh, .int .i64 th] 31))
    have hr_ := HR.out.grow (box_below uz32 (.cells #[.int .i64 kh, .slice Ah nh ch, .slice Bh mh dh, .slice Ch ph eh, .slice Eh qh sh, .int .i64 th] 31))
    clear hz33 kc0 kf0 kc1 kf1 kc2 kf2 kc3 kf3
    go_upto_region 25 with fail
    generalize World.alloc _ _ = wd at kz34 low_ hh_ hr_ ⊢
    have LOW := Lib.hid low_
    clear low_
    have HH := Lib.hid hh_
    clear hh_
    have HR := Lib.hid hr_
    clear hr_
    obtain ⟨kc0, kf0, kc1, kf1, kc2, kf2, kc3, kf3, kc4, kf4, -⟩ := kz34.rd
    go_wp2_with fail
    refine (QG.out HX.out _ _ _ HR.out (HW.out.below LOW.out).reads).mono ?_; rintro e uz35 ⟨rfl, bz36⟩
    have hz37 := kz34.below bz36
    have hh_ := HH.out.below bz36
    clear kz34 bz36 HH kc0 kf0 kc1 kf1 kc2 kf2 kc3 kf3 kc4 kf4
    have HH := Lib.hid hh_
    clear hh_
    obtain ⟨kc0, kf0, kc1, kf1, kc2, kf2, kc3, kf3, kc4, kf4, -⟩ := hz37.rd
    go_wp2_with fail
    refine (HG.out HX.out _ _ _ HH.out).mono ?_; rintro e uz38 ⟨rfl, bz39⟩
    have hz40 := hz37.below bz39
    clear hz37 bz39 kc0 kf0 kc1 kf1 kc2 kf2 kc3 kf3 kc4 kf4
    have BZ := Lib.hid hz40.1
    clear hz40
    go_wp2_with fail
    go_ret
    exact ⟨rfl, BZ.out⟩
def AnsFallen (E : World → Prop) : Prop := ∀ (x : VolG) (v : Value) (w : World) , x.Short → x.Int64 → RdG w w.heap.size x v → E w → 
  Calls Tryz.prog 30 #[v] w (Ans2 w (fallG x ))
set_option maxRecDepth 20000 in
set_option maxHeartbeats 16000000 in
theorem fallenLaw_calls (E : World → Prop) (H : AnsFallen E) (x : VolG) (v : Value)  (w : World) (hE : ∀ u, Below w.heap.size w u → E u) (h : LawVol w x v) :
    Calls Tryz.prog 6 #[v] w fun e w' => e = .returned (.bool true) ∧ Below w.heap.size w w' := by
  obtain ⟨hr, hi, m1, m2, m3, m4, m5⟩ := h
  have XSH := Lib.hid (fun (hx : x.Short) => hx)
  have T := Lib.hid (fun (hx : x.Short) (u : World) (hb : Below w.heap.size w u) => toVolume_calls x v u hx ((hr.below hb (Nat.le_refl _)).more hb.size))
  have SP := Lib.hid (fun (hx : x.Short) (v : Value) (u : World) (h : RdG u u.heap.size x v) => fallenG_calls x v  u hx (hi hx) h)
  have CI := Lib.hid (fun (hx : x.Short) (v : Value) (u : World) (hb : Below w.heap.size w u) (h : RdG u u.heap.size x v) => H x v u  hx (hi hx) h (hE u hb))
  have QS := Lib.hid (fun (hx : x.Short) => fallG_short (hi hx) )
  have SZ := Lib.hid (fun (A : Option Addr) (c : Nat) (B : Option Addr) (d : Nat) (C : Option Addr) (e : Nat) (E : Option Addr) (s : Nat) (u : World) (hE : Slots u u.heap.size E x.slots) => szVolume_calls x A c B d C e E s u m1 m2 m3 m4 hE m5)
  have QX := Lib.hid (fun (hx : x.Short) (v v' : Value) (u : World) (h : RdG u u.heap.size x v) (h' : RdG u u.heap.size x v') => eqVolume_same x v v' u hx h h')
  have MX := Lib.hid (fun (hx : x.Short) (lo hi : Nat) (v : Value) (u : World) (hiu : hi ≤ u.heap.size) (h : OwnG u lo hi x v) => markVolume_mid lo hi x v u hx hiu h)
  generalize fallG x  = R at SP CI QS
  obtain ⟨o, p⟩ := R
  have QG := Lib.hid (fun (hx : x.Short) (v v' : Value) (u : World) (h : RdG u u.heap.size (optG o) v) (h' : RdG u u.heap.size (optG o) v') => eqVolume_same (optG o) v v' u (QS.out hx).g h h')
  have MG := Lib.hid (fun (hx : x.Short) (base : Nat) (v : Value) (w0 u : World) (h : VolQ w0 base o v) (hs : Since base w0 u) => markVolumeQ_calls base o v w0 u (QS.out hx) h hs)
  have HG := Lib.hid (fun (hx : x.Short) (base : Nat) (v : Value) (u : World) (h : HeldQ u base o v) => heldVolumeQ_calls base o v u (QS.out hx) h)
  have HQM := Lib.hid (fun (hx : x.Short) => show ¬ qMarks o < 0 from by
    have h0 : 0 ≤ qMarks o := qMarks_pos (QS.out hx)
    omega)
  generalize qMarks o = qm at MG HG HQM
  have hqq : (qm != qm) = false := by simp
  have hp : (p != p) = false := by simp
  obtain ⟨A, c, B, d, C, e, E', s, rfl, i1, i2, i3, i4, -⟩ := hr
  have I4 := Lib.hid i4
  clear i1 i2 i3 i4 hi m1 m2 m3 m4 m5 H hE QS
  have K0 := Lib.hid (show Kept w [(w.heap.size, 64, #[.int .i64 x.key, .slice A x.counts.length c, .slice B x.trusts.length d, .slice C x.cells.length e, .slice E' x.slots.length s, .int .i64 x.count])] _ from ((Kept.refl w).put1 _ _ #[.int .i64 x.key, .slice A x.counts.length c, .slice B x.trusts.length d, .slice C x.cells.length e, .slice E' x.slots.length s, .int .i64 x.count] rfl))
  go_enter Tryz.func6, Tryz.ntmps6
  go_wp2_with fail
  have k0 := K0.out
  clear K0
  obtain ⟨kc0, kf0, -⟩ := k0.rd
  go_wp2_with fail
  refine (SZ.out A c B d C e E' s _ ((I4.out.below k0.1 (Nat.le_refl _)).more k0.1.size)).mono ?_; rintro e uz1 ⟨r, rfl, hr, bz2⟩
  have hz3 := k0.below bz2
  clear k0 bz2 kc0 kf0
  obtain ⟨kc0, kf0, -⟩ := hz3.rd
  clear I4 SZ
  rcases hr with rfl | ⟨r0, hx⟩
  · have B1 := Lib.hid hz3.1
    clear hz3
    go_wp2_with fail
    go_ret
    exact ⟨rfl, B1.out⟩
  have hr : ¬ r < 0 := by omega
  have HX := Lib.hid hx
  have hqm := HQM.out hx
  clear hx
  go_wp2_with fail
  refine (T.out HX.out _ hz3.1).mono ?_; rintro e uz4 ⟨v1, rfl, -, hrd, b1⟩
  have hz5 := hz3.below b1
  obtain ⟨kv, Av, nv, cv, Bv, mv, dv, Cv, pv, ev, Ev, qv, sv, tv, rfl⟩ := hrd.six
  have HRD := Lib.hid hrd
  clear hz3 b1 hrd kc0 kf0
  obtain ⟨kc0, kf0, -⟩ := hz5.rd
  go_wp2_with fail
  refine (SP.out HX.out _ _ HRD.out).mono ?_; rintro e uz6 ⟨cs, rfl, hq, b1⟩
  have hz7 := hz5.below b1
  obtain ⟨kw, Aw, nw, cw, Bw, mw, dw, Cw, pw, ew, Ew, qw, sw, tw, e1⟩ := hq.reads.six
  injection e1 with e1
  subst e1
  have HW := Lib.hid hq
  have bw0 := Below.refl uz6.heap.size uz6
  have LOW := Lib.hid bw0
  clear hz5 b1 hq HRD SP bw0 kc0 kf0
  obtain ⟨kc0, kf0, -⟩ := hz7.rd
  have lkz8_0 : w.heap.size < uz6.heap.size := hz7.lt (x := (w.heap.size, 64, #[.int .i64 x.key, .slice A x.counts.length c, .slice B x.trusts.length d, .slice C x.cells.length e, .slice E' x.slots.length s, .int .i64 x.count])) (by simp)
  have kz8 := hz7.put1 uz6.heap.size 31 #[.int .i64 kw, .slice Aw nw cw, .slice Bw mw dw, .slice Cw pw ew, .slice Ew qw sw, .int .i64 tw] rfl
  have low_ := LOW.out.trans ((box_below uz6 (.cells #[.int .i64 kw, .slice Aw nw cw, .slice Bw mw dw, .slice Cw pw ew, .slice Ew qw sw, .int .i64 tw] 31)).mono LOW.out.size)
  clear hz7 kc0 kf0
  go_upto_region 6 with fail
  generalize World.alloc _ _ = wa at kz8 low_ ⊢
  have LOW := Lib.hid low_
  clear low_
  obtain ⟨kc0, kf0, kc1, kf1, -⟩ := kz8.rd
  go_wp2_with fail
  have la0 : uz6.heap.size < wa.heap.size := kz8.lt (x := (uz6.heap.size, 31, #[.int .i64 kw, .slice Aw nw cw, .slice Bw mw dw, .slice Cw pw ew, .slice Ew qw sw, .int .i64 tw])) (by simp)
  have la1 : w.heap.size < wa.heap.size := kz8.lt (x := (w.heap.size, 64, #[.int .i64 x.key, .slice A x.counts.length c, .slice B x.trusts.length d, .slice C x.cells.length e, .slice E' x.slots.length s, .int .i64 x.count])) (by simp)
  obtain ⟨lo, hlo⟩ : ∃ n, n = wa.heap.size := ⟨_, rfl⟩
  refine (T.out HX.out _ kz8.1).mono ?_; rintro e uz9 ⟨v1, rfl, hown, hrd, b1⟩
  have hz10 := kz8.below b1
  obtain ⟨kx, Ax, nx, cx, Bx, mx, dx, Cx, px, ex, Ex, qx, sx, tx, rfl⟩ := hrd.six
  have hi0 : lo ≤ uz9.heap.size := by rw [hlo]; exact b1.size
  obtain ⟨hi, hhi⟩ : ∃ n, n = uz9.heap.size := ⟨_, rfl⟩
  rw [← hlo, ← hhi] at hown
  rw [← hlo] at la0 la1
  have low_ := LOW.out.trans (b1.mono LOW.out.size)
  clear LOW
  have LOW := Lib.hid low_
  have XO := Lib.hid hown
  have XR := Lib.hid hrd
  clear kz8 b1 hrd hown low_ hlo kc0 kf0 kc1 kf1
  obtain ⟨kc0, kf0, kc1, kf1, -⟩ := hz10.rd
  have lkz11_0 : uz6.heap.size < uz9.heap.size := hz10.lt (x := (uz6.heap.size, 31, #[.int .i64 kw, .slice Aw nw cw, .slice Bw mw dw, .slice Cw pw ew, .slice Ew qw sw, .int .i64 tw])) (by simp)
  have lkz11_1 : w.heap.size < uz9.heap.size := hz10.lt (x := (w.heap.size, 64, #[.int .i64 x.key, .slice A x.counts.length c, .slice B x.trusts.length d, .slice C x.cells.length e, .slice E' x.slots.length s, .int .i64 x.count])) (by simp)
  have kz11 := hz10.put1 uz9.heap.size 31 #[.int .i64 kx, .slice Ax nx cx, .slice Bx mx dx, .slice Cx px ex, .slice Ex qx sx, .int .i64 tx] rfl
  have low_ := LOW.out.trans ((box_below uz9 (.cells #[.int .i64 kx, .slice Ax nx cx, .slice Bx mx dx, .slice Cx px ex, .slice Ex qx sx, .int .i64 tx] 31)).mono LOW.out.size)
  have xo_ := XO.out.below (box_below uz9 (.cells #[.int .i64 kx, .slice Ax nx cx, .slice Bx mx dx, .slice Cx px ex, .slice Ex qx sx, .int .i64 tx] 31))
  have xr_ := XR.out.grow (box_below uz9 (.cells #[.int .i64 kx, .slice Ax nx cx, .slice Bx mx dx, .slice Cx px ex, .slice Ex qx sx, .int .i64 tx] 31))
  clear hz10 kc0 kf0 kc1 kf1
  go_upto_region 7 with fail
  generalize World.alloc _ _ = wb at kz11 low_ xo_ xr_ ⊢
  have LOW := Lib.hid low_
  clear low_
  have XO := Lib.hid xo_
  clear xo_
  have XR := Lib.hid xr_
  clear xr_
  obtain ⟨kc0, kf0, kc1, kf1, kc2, kf2, -⟩ := kz11.rd
  go_wp2_with fail
  have lb0 : uz9.heap.size < wb.heap.size := kz11.lt (x := (uz9.heap.size, 31, #[.int .i64 kx, .slice Ax nx cx, .slice Bx mx dx, .slice Cx px ex, .slice Ex qx sx, .int .i64 tx])) (by simp)
  refine (CI.out HX.out _ _ kz11.1 XR.out).mono ?_; rintro e uz12 ⟨cs, rfl, hq, b1⟩
  have hz13 := kz11.below b1
  obtain ⟨kg, Ag, ng, cg, Bg, mg, dg, Cg, pg, eg, Eg, qg, sg, tg, e1⟩ := hq.reads.six
  injection e1 with e1
  subst e1
  have hb2 : wb.heap.size ≤ uz12.heap.size := b1.size
  obtain ⟨base, hbase⟩ : ∃ n, n = wb.heap.size := ⟨_, rfl⟩
  rw [← hbase] at hq hb2 lb0
  have sinc := Since.refl base uz12
  have SG := Lib.hid sinc
  have HQ := Lib.hid hq
  have low_ := LOW.out.trans (b1.mono LOW.out.size)
  have xo_ := XO.out.below b1
  have xr_ := XR.out.grow b1
  clear LOW XO XR
  have LOW := Lib.hid low_
  have XO := Lib.hid xo_
  have XR := Lib.hid xr_
  clear kz11 b1 hq sinc hbase low_ xo_ xr_ kc0 kf0 kc1 kf1 kc2 kf2
  obtain ⟨kc0, kf0, kc1, kf1, kc2, kf2, -⟩ := hz13.rd
  have lkz14_0 : uz9.heap.size < uz12.heap.size := hz13.lt (x := (uz9.heap.size, 31, #[.int .i64 kx, .slice Ax nx cx, .slice Bx mx dx, .slice Cx px ex, .slice Ex qx sx, .int .i64 tx])) (by simp)
  have lkz14_1 : uz6.heap.size < uz12.heap.size := hz13.lt (x := (uz6.heap.size, 31, #[.int .i64 kw, .slice Aw nw cw, .slice Bw mw dw, .slice Cw pw ew, .slice Ew qw sw, .int .i64 tw])) (by simp)
  have lkz14_2 : w.heap.size < uz12.heap.size := hz13.lt (x := (w.heap.size, 64, #[.int .i64 x.key, .slice A x.counts.length c, .slice B x.trusts.length d, .slice C x.cells.length e, .slice E' x.slots.length s, .int .i64 x.count])) (by simp)
  have kz14 := hz13.put1 uz12.heap.size 31 #[.int .i64 kg, .slice Ag ng cg, .slice Bg mg dg, .slice Cg pg eg, .slice Eg qg sg, .int .i64 tg] rfl
  have low_ := LOW.out.trans ((box_below uz12 (.cells #[.int .i64 kg, .slice Ag ng cg, .slice Bg mg dg, .slice Cg pg eg, .slice Eg qg sg, .int .i64 tg] 31)).mono LOW.out.size)
  have xo_ := XO.out.below (box_below uz12 (.cells #[.int .i64 kg, .slice Ag ng cg, .slice Bg mg dg, .slice Cg pg eg, .slice Eg qg sg, .int .i64 tg] 31))
  have xr_ := XR.out.grow (box_below uz12 (.cells #[.int .i64 kg, .slice Ag ng cg, .slice Bg mg dg, .slice Cg pg eg, .slice Eg qg sg, .int .i64 tg] 31))
  have sg_ := SG.out.trans (Since.of_below (box_below uz12 (.cells #[.int .i64 kg, .slice Ag ng cg, .slice Bg mg dg, .slice Cg pg eg, .slice Eg qg sg, .int .i64 tg] 31)))
  clear hz13 kc0 kf0 kc1 kf1 kc2 kf2
  go_upto_region 8 with fail
  generalize World.alloc _ _ = wc at kz14 low_ xo_ xr_ sg_ ⊢
  have LOW := Lib.hid low_
  clear low_
  have XO := Lib.hid xo_
  clear xo_
  have XR := Lib.hid xr_
  clear xr_
  have SG := Lib.hid sg_
  clear sg_
  obtain ⟨kc0, kf0, kc1, kf1, kc2, kf2, kc3, kf3, -⟩ := kz14.rd
  go_wp2_with fail
  refine (QG.out HX.out _ _ _ (HQ.out.since SG.out).reads (HW.out.below LOW.out).reads).mono ?_; rintro e uz15 ⟨rfl, bz16⟩
  have hz17 := kz14.below bz16
  have low_ := LOW.out.trans (bz16.mono LOW.out.size)
  have xo_ := XO.out.below bz16
  have xr_ := XR.out.grow bz16
  have sg_ := SG.out.trans (Since.of_below bz16)
  clear kz14 bz16 LOW XO XR SG kc0 kf0 kc1 kf1 kc2 kf2 kc3 kf3
  have LOW := Lib.hid low_
  clear low_
  have XO := Lib.hid xo_
  clear xo_
  have XR := Lib.hid xr_
  clear xr_
  have SG := Lib.hid sg_
  clear sg_
  obtain ⟨kc0, kf0, kc1, kf1, kc2, kf2, kc3, kf3, -⟩ := hz17.rd
  go_upto_region 10 with fail
  have dr : Below uz15.heap.size uz15 uz15.drew := (Below.refl _ _).drew
  have Kz18 := Lib.hid hz17.drew
  clear hz17
  have low_ := LOW.out.trans (dr.mono LOW.out.size)
  have xo_ := XO.out.below dr
  have xr_ := XR.out.grow dr
  have sg_ := SG.out.trans (Since.of_below dr)
  clear LOW XO XR SG dr
  have LOW := Lib.hid low_
  clear low_
  have XO := Lib.hid xo_
  clear xo_
  have XR := Lib.hid xr_
  clear xr_
  have SG := Lib.hid sg_
  clear sg_
  go_region_with (first
    | (go_at_call 42; refine (T.out HX.out _ Kz18.out.1).mono ?_; rintro e wx ⟨v1, rfl, -, hrd, bfx⟩; have kfx := Kz18.out.below bfx; obtain ⟨mc0, mf0, mc1, mf1, mc2, mf2, mc3, mf3, -⟩ := kfx.rd; have FX := Lib.hid hrd; have FY := Lib.hid (RdG.grow XR.out bfx); have FB := Lib.hid bfx; clear kfx bfx hrd)
    | (go_at_call 43; refine (QX.out HX.out _ _ _ FY.out FX.out).mono ?_; rintro e wy ⟨rfl, hyb⟩; have GB := Lib.hid (FB.out.trans (hyb.mono FB.out.size)); clear hyb))
  all_goals
    have hz19 := Kz18.out.below GB.out
    have low_ := LOW.out.trans (GB.out.mono LOW.out.size)
    have xo_ := XO.out.below GB.out
    have xr_ := XR.out.grow GB.out
    have sg_ := SG.out.trans (Since.of_below GB.out)
    clear Kz18 LOW XO XR SG FB GB FX FY
    have LOW := Lib.hid low_
    clear low_
    have XO := Lib.hid xo_
    clear xo_
    have XR := Lib.hid xr_
    clear xr_
    have SG := Lib.hid sg_
    clear sg_
    go_upto_region 13 with fail
    obtain ⟨kc0, kf0, kc1, kf1, kc2, kf2, kc3, kf3, -⟩ := hz19.rd
    go_wp2_with fail
    have sy := hz19.1.size
    have sy2 := LOW.out.size
    have sy3 := SG.out.1
    refine (MX.out HX.out lo hi _ _ (by omega) XO.out).mono ?_; rintro e uz20 ⟨⟨z, rfl, hz⟩, hm⟩
    have hz21 := hz19.mid hm (by omega) (by omega) (by intro y hy; simp at hy; rcases hy with rfl | rfl | rfl | rfl <;> simp <;> omega)
    have low_ := below_mid LOW.out hm (by omega) (by omega)
    have sg_ := SG.out.mid hm (by omega)
    have hz2 : ¬ z < 0 := by omega
    clear LOW SG XO XR MX sy sy2 sy3 hm hz
    have LOW := Lib.hid low_
    have SG := Lib.hid sg_
    clear hz19 low_ sg_ kc0 kf0 kc1 kf1 kc2 kf2 kc3 kf3
    obtain ⟨kc0, kf0, kc1, kf1, kc2, kf2, kc3, kf3, -⟩ := hz21.rd
    go_wp2_with fail
    refine (QG.out HX.out _ _ _ (HQ.out.since SG.out).reads (HW.out.below LOW.out).reads).mono ?_; rintro e uz22 ⟨rfl, bz23⟩
    have hz24 := hz21.below bz23
    have low_ := LOW.out.trans (bz23.mono LOW.out.size)
    have sg_ := SG.out.trans (Since.of_below bz23)
    clear hz21 bz23 LOW SG kc0 kf0 kc1 kf1 kc2 kf2 kc3 kf3
    have LOW := Lib.hid low_
    clear low_
    have SG := Lib.hid sg_
    clear sg_
    obtain ⟨kc0, kf0, kc1, kf1, kc2, kf2, kc3, kf3, -⟩ := hz24.rd
    go_wp2_with fail
    have sy := hz24.1.size
    have sy2 := LOW.out.size
    have sy3 := SG.out.1
    refine (MG.out HX.out _ _ _ _ HQ.out SG.out).mono ?_; rintro e uz25 ⟨rfl, hh, hm⟩
    have hz26 := hz24.mid hm (by omega) (by omega) (by intro y hy; simp at hy; rcases hy with rfl | rfl | rfl | rfl <;> simp <;> omega)
    have low_ := below_mid LOW.out hm (by omega) (by omega)
    clear LOW SG HQ MG sy sy2 sy3 hm
    have LOW := Lib.hid low_
    have HH := Lib.hid hh
    clear hz24 low_ hh kc0 kf0 kc1 kf1 kc2 kf2 kc3 kf3
    obtain ⟨kc0, kf0, kc1, kf1, kc2, kf2, kc3, kf3, -⟩ := hz26.rd
    go_wp2_with fail
    refine (HG.out HX.out _ _ _ HH.out).mono ?_; rintro e uz27 ⟨rfl, bz28⟩
    have hz29 := hz26.below bz28
    have low_ := LOW.out.trans (bz28.mono LOW.out.size)
    have hh_ := HH.out.below bz28
    clear hz26 bz28 LOW HH kc0 kf0 kc1 kf1 kc2 kf2 kc3 kf3
    have LOW := Lib.hid low_
    clear low_
    have HH := Lib.hid hh_
    clear hh_
    obtain ⟨kc0, kf0, kc1, kf1, kc2, kf2, kc3, kf3, -⟩ := hz29.rd
    go_wp2_with fail
    refine (T.out HX.out _ hz29.1).mono ?_; rintro e uz30 ⟨v1, rfl, -, hrd, b1⟩
    have hz31 := hz29.below b1
    obtain ⟨kj, Aj, nj, cj, Bj, mj, dj, Cj, pj, ej, Ej, qj, sj, tj, rfl⟩ := hrd.six
    have HRD := Lib.hid hrd
    have low_ := LOW.out.trans (b1.mono LOW.out.size)
    have hh_ := HH.out.below b1
    clear LOW HH
    have LOW := Lib.hid low_
    have HH := Lib.hid hh_
    clear hz29 b1 hrd low_ hh_ kc0 kf0 kc1 kf1 kc2 kf2 kc3 kf3
    obtain ⟨kc0, kf0, kc1, kf1, kc2, kf2, kc3, kf3, -⟩ := hz31.rd
    go_wp2_with fail
    refine (CI.out HX.out _ _ hz31.1 HRD.out).mono ?_; rintro e uz32 ⟨cs, rfl, hq, b1⟩
    have hz33 := hz31.below b1
    obtain ⟨kh, Ah, nh, ch, Bh, mh, dh, Ch, ph, eh, Eh, qh, sh, th, e1⟩ := hq.reads.six
    injection e1 with e1
    subst e1
    have HR := Lib.hid hq.reads
    have low_ := LOW.out.trans (b1.mono LOW.out.size)
    have hh_ := HH.out.below b1
    clear LOW HH
    have LOW := Lib.hid low_
    have HH := Lib.hid hh_
    clear hz31 b1 hq HRD CI low_ hh_ kc0 kf0 kc1 kf1 kc2 kf2 kc3 kf3
    obtain ⟨kc0, kf0, kc1, kf1, kc2, kf2, kc3, kf3, -⟩ := hz33.rd
    have lkz34_0 : uz12.heap.size < uz32.heap.size := hz33.lt (x := (uz12.heap.size, 31, #[.int .i64 kg, .slice Ag ng cg, .slice Bg mg dg, .slice Cg pg eg, .slice Eg qg sg, .int .i64 tg])) (by simp)
    have lkz34_1 : uz9.heap.size < uz32.heap.size := hz33.lt (x := (uz9.heap.size, 31, #[.int .i64 kx, .slice Ax nx cx, .slice Bx mx dx, .slice Cx px ex, .slice Ex qx sx, .int .i64 tx])) (by simp)
    have lkz34_2 : uz6.heap.size < uz32.heap.size := hz33.lt (x := (uz6.heap.size, 31, #[.int .i64 kw, .slice Aw nw cw, .slice Bw mw dw, .slice Cw pw ew, .slice Ew qw sw, .int .i64 tw])) (by simp)
    have lkz34_3 : w.heap.size < uz32.heap.size := hz33.lt (x := (w.heap.size, 64, #[.int .i64 x.key, .slice A x.counts.length c, .slice B x.trusts.length d, .slice C x.cells.length e, .slice E' x.slots.length s, .int .i64 x.count])) (by simp)
    have kz34 := hz33.put1 uz32.heap.size 31 #[.int .i64 kh, .slice Ah nh ch, .slice Bh mh dh, .slice Ch ph eh, .slice Eh qh sh, .int .i64 th] rfl
    have low_ := LOW.out.trans ((box_below uz32 (.cells #[.int .i64 kh, .slice Ah nh ch, .slice Bh mh dh, .slice Ch ph eh, .slice Eh qh sh, .int .i64 th] 31)).mono LOW.out.size)
    have hh_ := HH.out.below (box_below uz32 (.cells #[.int .i64 kh, .slice Ah nh ch, .slice Bh mh dh, .slice Ch ph eh, .slice Eh qh sh, .int .i64 th] 31))
    have hr_ := HR.out.grow (box_below uz32 (.cells #[.int .i64 kh, .slice Ah nh ch, .slice Bh mh dh, .slice Ch ph eh, .slice Eh qh sh, .int .i64 th] 31))
    clear hz33 kc0 kf0 kc1 kf1 kc2 kf2 kc3 kf3
    go_upto_region 25 with fail
    generalize World.alloc _ _ = wd at kz34 low_ hh_ hr_ ⊢
    have LOW := Lib.hid low_
    clear low_
    have HH := Lib.hid hh_
    clear hh_
    have HR := Lib.hid hr_
    clear hr_
    obtain ⟨kc0, kf0, kc1, kf1, kc2, kf2, kc3, kf3, kc4, kf4, -⟩ := kz34.rd
    go_wp2_with fail
    refine (QG.out HX.out _ _ _ HR.out (HW.out.below LOW.out).reads).mono ?_; rintro e uz35 ⟨rfl, bz36⟩
    have hz37 := kz34.below bz36
    have hh_ := HH.out.below bz36
    clear kz34 bz36 HH kc0 kf0 kc1 kf1 kc2 kf2 kc3 kf3 kc4 kf4
    have HH := Lib.hid hh_
    clear hh_
    obtain ⟨kc0, kf0, kc1, kf1, kc2, kf2, kc3, kf3, kc4, kf4, -⟩ := hz37.rd
    go_wp2_with fail
    refine (HG.out HX.out _ _ _ HH.out).mono ?_; rintro e uz38 ⟨rfl, bz39⟩
    have hz40 := hz37.below bz39
    clear hz37 bz39 kc0 kf0 kc1 kf1 kc2 kf2 kc3 kf3 kc4 kf4
    have BZ := Lib.hid hz40.1
    clear hz40
    go_wp2_with fail
    go_ret
    exact ⟨rfl, BZ.out⟩
def AnsSpoilt (E : World → Prop) : Prop := ∀ (x : VolG) (v : Value) (w : World) (a : Int), x.Short → x.Int64 → RdG w w.heap.size x v → E w → 
  Calls Tryz.prog 33 #[v, .int .i64 a] w (Ans2 w (spoilG x a))
set_option maxRecDepth 20000 in
set_option maxHeartbeats 16000000 in
theorem spoiltLaw_calls (E : World → Prop) (H : AnsSpoilt E) (x : VolG) (v : Value) (a : Int) (w : World) (hE : ∀ u, Below w.heap.size w u → E u) (h : LawVol w x v) :
    Calls Tryz.prog 7 #[v, .int .i64 a] w fun e w' => e = .returned (.bool true) ∧ Below w.heap.size w w' := by
  obtain ⟨hr, hi, m1, m2, m3, m4, m5⟩ := h
  have XSH := Lib.hid (fun (hx : x.Short) => hx)
  have T := Lib.hid (fun (hx : x.Short) (u : World) (hb : Below w.heap.size w u) => toVolume_calls x v u hx ((hr.below hb (Nat.le_refl _)).more hb.size))
  have SP := Lib.hid (fun (hx : x.Short) (v : Value) (u : World) (h : RdG u u.heap.size x v) => spoiltG_calls x v a u hx (hi hx) h)
  have CI := Lib.hid (fun (hx : x.Short) (v : Value) (u : World) (hb : Below w.heap.size w u) (h : RdG u u.heap.size x v) => H x v u a hx (hi hx) h (hE u hb))
  have QS := Lib.hid (fun (hx : x.Short) => spoilG_short (hi hx) a)
  have SZ := Lib.hid (fun (A : Option Addr) (c : Nat) (B : Option Addr) (d : Nat) (C : Option Addr) (e : Nat) (E : Option Addr) (s : Nat) (u : World) (hE : Slots u u.heap.size E x.slots) => szVolume_calls x A c B d C e E s u m1 m2 m3 m4 hE m5)
  have QX := Lib.hid (fun (hx : x.Short) (v v' : Value) (u : World) (h : RdG u u.heap.size x v) (h' : RdG u u.heap.size x v') => eqVolume_same x v v' u hx h h')
  have MX := Lib.hid (fun (hx : x.Short) (lo hi : Nat) (v : Value) (u : World) (hiu : hi ≤ u.heap.size) (h : OwnG u lo hi x v) => markVolume_mid lo hi x v u hx hiu h)
  generalize spoilG x a = R at SP CI QS
  obtain ⟨o, p⟩ := R
  have QG := Lib.hid (fun (hx : x.Short) (v v' : Value) (u : World) (h : RdG u u.heap.size (optG o) v) (h' : RdG u u.heap.size (optG o) v') => eqVolume_same (optG o) v v' u (QS.out hx).g h h')
  have MG := Lib.hid (fun (hx : x.Short) (base : Nat) (v : Value) (w0 u : World) (h : VolQ w0 base o v) (hs : Since base w0 u) => markVolumeQ_calls base o v w0 u (QS.out hx) h hs)
  have HG := Lib.hid (fun (hx : x.Short) (base : Nat) (v : Value) (u : World) (h : HeldQ u base o v) => heldVolumeQ_calls base o v u (QS.out hx) h)
  have HQM := Lib.hid (fun (hx : x.Short) => show ¬ qMarks o < 0 from by
    have h0 : 0 ≤ qMarks o := qMarks_pos (QS.out hx)
    omega)
  generalize qMarks o = qm at MG HG HQM
  have hqq : (qm != qm) = false := by simp
  have hp : (p != p) = false := by simp
  obtain ⟨A, c, B, d, C, e, E', s, rfl, i1, i2, i3, i4, -⟩ := hr
  have I4 := Lib.hid i4
  clear i1 i2 i3 i4 hi m1 m2 m3 m4 m5 H hE QS
  have K0 := Lib.hid (show Kept w [(w.heap.size, 64, #[.int .i64 x.key, .slice A x.counts.length c, .slice B x.trusts.length d, .slice C x.cells.length e, .slice E' x.slots.length s, .int .i64 x.count])] _ from ((Kept.refl w).put1 _ _ #[.int .i64 x.key, .slice A x.counts.length c, .slice B x.trusts.length d, .slice C x.cells.length e, .slice E' x.slots.length s, .int .i64 x.count] rfl))
  go_enter Tryz.func7, Tryz.ntmps7
  go_wp2_with fail
  have k0 := K0.out
  clear K0
  obtain ⟨kc0, kf0, -⟩ := k0.rd
  go_wp2_with fail
  refine (SZ.out A c B d C e E' s _ ((I4.out.below k0.1 (Nat.le_refl _)).more k0.1.size)).mono ?_; rintro e uz1 ⟨r, rfl, hr, bz2⟩
  have hz3 := k0.below bz2
  clear k0 bz2 kc0 kf0
  obtain ⟨kc0, kf0, -⟩ := hz3.rd
  clear I4 SZ
  rcases hr with rfl | ⟨r0, hx⟩
  · have B1 := Lib.hid hz3.1
    clear hz3
    go_wp2_with fail
    go_ret
    exact ⟨rfl, B1.out⟩
  have hr : ¬ r < 0 := by omega
  have HX := Lib.hid hx
  have hqm := HQM.out hx
  clear hx
  go_wp2_with fail
  refine (T.out HX.out _ hz3.1).mono ?_; rintro e uz4 ⟨v1, rfl, -, hrd, b1⟩
  have hz5 := hz3.below b1
  obtain ⟨kv, Av, nv, cv, Bv, mv, dv, Cv, pv, ev, Ev, qv, sv, tv, rfl⟩ := hrd.six
  have HRD := Lib.hid hrd
  clear hz3 b1 hrd kc0 kf0
  obtain ⟨kc0, kf0, -⟩ := hz5.rd
  go_wp2_with fail
  refine (SP.out HX.out _ _ HRD.out).mono ?_; rintro e uz6 ⟨cs, rfl, hq, b1⟩
  have hz7 := hz5.below b1
  obtain ⟨kw, Aw, nw, cw, Bw, mw, dw, Cw, pw, ew, Ew, qw, sw, tw, e1⟩ := hq.reads.six
  injection e1 with e1
  subst e1
  have HW := Lib.hid hq
  have bw0 := Below.refl uz6.heap.size uz6
  have LOW := Lib.hid bw0
  clear hz5 b1 hq HRD SP bw0 kc0 kf0
  obtain ⟨kc0, kf0, -⟩ := hz7.rd
  have lkz8_0 : w.heap.size < uz6.heap.size := hz7.lt (x := (w.heap.size, 64, #[.int .i64 x.key, .slice A x.counts.length c, .slice B x.trusts.length d, .slice C x.cells.length e, .slice E' x.slots.length s, .int .i64 x.count])) (by simp)
  have kz8 := hz7.put1 uz6.heap.size 31 #[.int .i64 kw, .slice Aw nw cw, .slice Bw mw dw, .slice Cw pw ew, .slice Ew qw sw, .int .i64 tw] rfl
  have low_ := LOW.out.trans ((box_below uz6 (.cells #[.int .i64 kw, .slice Aw nw cw, .slice Bw mw dw, .slice Cw pw ew, .slice Ew qw sw, .int .i64 tw] 31)).mono LOW.out.size)
  clear hz7 kc0 kf0
  go_upto_region 6 with fail
  generalize World.alloc _ _ = wa at kz8 low_ ⊢
  have LOW := Lib.hid low_
  clear low_
  obtain ⟨kc0, kf0, kc1, kf1, -⟩ := kz8.rd
  go_wp2_with fail
  have la0 : uz6.heap.size < wa.heap.size := kz8.lt (x := (uz6.heap.size, 31, #[.int .i64 kw, .slice Aw nw cw, .slice Bw mw dw, .slice Cw pw ew, .slice Ew qw sw, .int .i64 tw])) (by simp)
  have la1 : w.heap.size < wa.heap.size := kz8.lt (x := (w.heap.size, 64, #[.int .i64 x.key, .slice A x.counts.length c, .slice B x.trusts.length d, .slice C x.cells.length e, .slice E' x.slots.length s, .int .i64 x.count])) (by simp)
  obtain ⟨lo, hlo⟩ : ∃ n, n = wa.heap.size := ⟨_, rfl⟩
  refine (T.out HX.out _ kz8.1).mono ?_; rintro e uz9 ⟨v1, rfl, hown, hrd, b1⟩
  have hz10 := kz8.below b1
  obtain ⟨kx, Ax, nx, cx, Bx, mx, dx, Cx, px, ex, Ex, qx, sx, tx, rfl⟩ := hrd.six
  have hi0 : lo ≤ uz9.heap.size := by rw [hlo]; exact b1.size
  obtain ⟨hi, hhi⟩ : ∃ n, n = uz9.heap.size := ⟨_, rfl⟩
  rw [← hlo, ← hhi] at hown
  rw [← hlo] at la0 la1
  have low_ := LOW.out.trans (b1.mono LOW.out.size)
  clear LOW
  have LOW := Lib.hid low_
  have XO := Lib.hid hown
  have XR := Lib.hid hrd
  clear kz8 b1 hrd hown low_ hlo kc0 kf0 kc1 kf1
  obtain ⟨kc0, kf0, kc1, kf1, -⟩ := hz10.rd
  have lkz11_0 : uz6.heap.size < uz9.heap.size := hz10.lt (x := (uz6.heap.size, 31, #[.int .i64 kw, .slice Aw nw cw, .slice Bw mw dw, .slice Cw pw ew, .slice Ew qw sw, .int .i64 tw])) (by simp)
  have lkz11_1 : w.heap.size < uz9.heap.size := hz10.lt (x := (w.heap.size, 64, #[.int .i64 x.key, .slice A x.counts.length c, .slice B x.trusts.length d, .slice C x.cells.length e, .slice E' x.slots.length s, .int .i64 x.count])) (by simp)
  have kz11 := hz10.put1 uz9.heap.size 31 #[.int .i64 kx, .slice Ax nx cx, .slice Bx mx dx, .slice Cx px ex, .slice Ex qx sx, .int .i64 tx] rfl
  have low_ := LOW.out.trans ((box_below uz9 (.cells #[.int .i64 kx, .slice Ax nx cx, .slice Bx mx dx, .slice Cx px ex, .slice Ex qx sx, .int .i64 tx] 31)).mono LOW.out.size)
  have xo_ := XO.out.below (box_below uz9 (.cells #[.int .i64 kx, .slice Ax nx cx, .slice Bx mx dx, .slice Cx px ex, .slice Ex qx sx, .int .i64 tx] 31))
  have xr_ := XR.out.grow (box_below uz9 (.cells #[.int .i64 kx, .slice Ax nx cx, .slice Bx mx dx, .slice Cx px ex, .slice Ex qx sx, .int .i64 tx] 31))
  clear hz10 kc0 kf0 kc1 kf1
  go_upto_region 7 with fail
  generalize World.alloc _ _ = wb at kz11 low_ xo_ xr_ ⊢
  have LOW := Lib.hid low_
  clear low_
  have XO := Lib.hid xo_
  clear xo_
  have XR := Lib.hid xr_
  clear xr_
  obtain ⟨kc0, kf0, kc1, kf1, kc2, kf2, -⟩ := kz11.rd
  go_wp2_with fail
  have lb0 : uz9.heap.size < wb.heap.size := kz11.lt (x := (uz9.heap.size, 31, #[.int .i64 kx, .slice Ax nx cx, .slice Bx mx dx, .slice Cx px ex, .slice Ex qx sx, .int .i64 tx])) (by simp)
  refine (CI.out HX.out _ _ kz11.1 XR.out).mono ?_; rintro e uz12 ⟨cs, rfl, hq, b1⟩
  have hz13 := kz11.below b1
  obtain ⟨kg, Ag, ng, cg, Bg, mg, dg, Cg, pg, eg, Eg, qg, sg, tg, e1⟩ := hq.reads.six
  injection e1 with e1
  subst e1
  have hb2 : wb.heap.size ≤ uz12.heap.size := b1.size
  obtain ⟨base, hbase⟩ : ∃ n, n = wb.heap.size := ⟨_, rfl⟩
  rw [← hbase] at hq hb2 lb0
  have sinc := Since.refl base uz12
  have SG := Lib.hid sinc
  have HQ := Lib.hid hq
  have low_ := LOW.out.trans (b1.mono LOW.out.size)
  have xo_ := XO.out.below b1
  have xr_ := XR.out.grow b1
  clear LOW XO XR
  have LOW := Lib.hid low_
  have XO := Lib.hid xo_
  have XR := Lib.hid xr_
  clear kz11 b1 hq sinc hbase low_ xo_ xr_ kc0 kf0 kc1 kf1 kc2 kf2
  obtain ⟨kc0, kf0, kc1, kf1, kc2, kf2, -⟩ := hz13.rd
  have lkz14_0 : uz9.heap.size < uz12.heap.size := hz13.lt (x := (uz9.heap.size, 31, #[.int .i64 kx, .slice Ax nx cx, .slice Bx mx dx, .slice Cx px ex, .slice Ex qx sx, .int .i64 tx])) (by simp)
  have lkz14_1 : uz6.heap.size < uz12.heap.size := hz13.lt (x := (uz6.heap.size, 31, #[.int .i64 kw, .slice Aw nw cw, .slice Bw mw dw, .slice Cw pw ew, .slice Ew qw sw, .int .i64 tw])) (by simp)
  have lkz14_2 : w.heap.size < uz12.heap.size := hz13.lt (x := (w.heap.size, 64, #[.int .i64 x.key, .slice A x.counts.length c, .slice B x.trusts.length d, .slice C x.cells.length e, .slice E' x.slots.length s, .int .i64 x.count])) (by simp)
  have kz14 := hz13.put1 uz12.heap.size 31 #[.int .i64 kg, .slice Ag ng cg, .slice Bg mg dg, .slice Cg pg eg, .slice Eg qg sg, .int .i64 tg] rfl
  have low_ := LOW.out.trans ((box_below uz12 (.cells #[.int .i64 kg, .slice Ag ng cg, .slice Bg mg dg, .slice Cg pg eg, .slice Eg qg sg, .int .i64 tg] 31)).mono LOW.out.size)
  have xo_ := XO.out.below (box_below uz12 (.cells #[.int .i64 kg, .slice Ag ng cg, .slice Bg mg dg, .slice Cg pg eg, .slice Eg qg sg, .int .i64 tg] 31))
  have xr_ := XR.out.grow (box_below uz12 (.cells #[.int .i64 kg, .slice Ag ng cg, .slice Bg mg dg, .slice Cg pg eg, .slice Eg qg sg, .int .i64 tg] 31))
  have sg_ := SG.out.trans (Since.of_below (box_below uz12 (.cells #[.int .i64 kg, .slice Ag ng cg, .slice Bg mg dg, .slice Cg pg eg, .slice Eg qg sg, .int .i64 tg] 31)))
  clear hz13 kc0 kf0 kc1 kf1 kc2 kf2
  go_upto_region 8 with fail
  generalize World.alloc _ _ = wc at kz14 low_ xo_ xr_ sg_ ⊢
  have LOW := Lib.hid low_
  clear low_
  have XO := Lib.hid xo_
  clear xo_
  have XR := Lib.hid xr_
  clear xr_
  have SG := Lib.hid sg_
  clear sg_
  obtain ⟨kc0, kf0, kc1, kf1, kc2, kf2, kc3, kf3, -⟩ := kz14.rd
  go_wp2_with fail
  refine (QG.out HX.out _ _ _ (HQ.out.since SG.out).reads (HW.out.below LOW.out).reads).mono ?_; rintro e uz15 ⟨rfl, bz16⟩
  have hz17 := kz14.below bz16
  have low_ := LOW.out.trans (bz16.mono LOW.out.size)
  have xo_ := XO.out.below bz16
  have xr_ := XR.out.grow bz16
  have sg_ := SG.out.trans (Since.of_below bz16)
  clear kz14 bz16 LOW XO XR SG kc0 kf0 kc1 kf1 kc2 kf2 kc3 kf3
  have LOW := Lib.hid low_
  clear low_
  have XO := Lib.hid xo_
  clear xo_
  have XR := Lib.hid xr_
  clear xr_
  have SG := Lib.hid sg_
  clear sg_
  obtain ⟨kc0, kf0, kc1, kf1, kc2, kf2, kc3, kf3, -⟩ := hz17.rd
  go_upto_region 10 with fail
  have dr : Below uz15.heap.size uz15 uz15.drew := (Below.refl _ _).drew
  have Kz18 := Lib.hid hz17.drew
  clear hz17
  have low_ := LOW.out.trans (dr.mono LOW.out.size)
  have xo_ := XO.out.below dr
  have xr_ := XR.out.grow dr
  have sg_ := SG.out.trans (Since.of_below dr)
  clear LOW XO XR SG dr
  have LOW := Lib.hid low_
  clear low_
  have XO := Lib.hid xo_
  clear xo_
  have XR := Lib.hid xr_
  clear xr_
  have SG := Lib.hid sg_
  clear sg_
  go_region_with (first
    | (go_at_call 42; refine (T.out HX.out _ Kz18.out.1).mono ?_; rintro e wx ⟨v1, rfl, -, hrd, bfx⟩; have kfx := Kz18.out.below bfx; obtain ⟨mc0, mf0, mc1, mf1, mc2, mf2, mc3, mf3, -⟩ := kfx.rd; have FX := Lib.hid hrd; have FY := Lib.hid (RdG.grow XR.out bfx); have FB := Lib.hid bfx; clear kfx bfx hrd)
    | (go_at_call 43; refine (QX.out HX.out _ _ _ FY.out FX.out).mono ?_; rintro e wy ⟨rfl, hyb⟩; have GB := Lib.hid (FB.out.trans (hyb.mono FB.out.size)); clear hyb))
  all_goals
    have hz19 := Kz18.out.below GB.out
    have low_ := LOW.out.trans (GB.out.mono LOW.out.size)
    have xo_ := XO.out.below GB.out
    have xr_ := XR.out.grow GB.out
    have sg_ := SG.out.trans (Since.of_below GB.out)
    clear Kz18 LOW XO XR SG FB GB FX FY
    have LOW := Lib.hid low_
    clear low_
    have XO := Lib.hid xo_
    clear xo_
    have XR := Lib.hid xr_
    clear xr_
    have SG := Lib.hid sg_
    clear sg_
    go_upto_region 13 with fail
    obtain ⟨kc0, kf0, kc1, kf1, kc2, kf2, kc3, kf3, -⟩ := hz19.rd
    go_wp2_with fail
    have sy := hz19.1.size
    have sy2 := LOW.out.size
    have sy3 := SG.out.1
    refine (MX.out HX.out lo hi _ _ (by omega) XO.out).mono ?_; rintro e uz20 ⟨⟨z, rfl, hz⟩, hm⟩
    have hz21 := hz19.mid hm (by omega) (by omega) (by intro y hy; simp at hy; rcases hy with rfl | rfl | rfl | rfl <;> simp <;> omega)
    have low_ := below_mid LOW.out hm (by omega) (by omega)
    have sg_ := SG.out.mid hm (by omega)
    have hz2 : ¬ z < 0 := by omega
    clear LOW SG XO XR MX sy sy2 sy3 hm hz
    have LOW := Lib.hid low_
    have SG := Lib.hid sg_
    clear hz19 low_ sg_ kc0 kf0 kc1 kf1 kc2 kf2 kc3 kf3
    obtain ⟨kc0, kf0, kc1, kf1, kc2, kf2, kc3, kf3, -⟩ := hz21.rd
    go_wp2_with fail
    refine (QG.out HX.out _ _ _ (HQ.out.since SG.out).reads (HW.out.below LOW.out).reads).mono ?_; rintro e uz22 ⟨rfl, bz23⟩
    have hz24 := hz21.below bz23
    have low_ := LOW.out.trans (bz23.mono LOW.out.size)
    have sg_ := SG.out.trans (Since.of_below bz23)
    clear hz21 bz23 LOW SG kc0 kf0 kc1 kf1 kc2 kf2 kc3 kf3
    have LOW := Lib.hid low_
    clear low_
    have SG := Lib.hid sg_
    clear sg_
    obtain ⟨kc0, kf0, kc1, kf1, kc2, kf2, kc3, kf3, -⟩ := hz24.rd
    go_wp2_with fail
    have sy := hz24.1.size
    have sy2 := LOW.out.size
    have sy3 := SG.out.1
    refine (MG.out HX.out _ _ _ _ HQ.out SG.out).mono ?_; rintro e uz25 ⟨rfl, hh, hm⟩
    have hz26 := hz24.mid hm (by omega) (by omega) (by intro y hy; simp at hy; rcases hy with rfl | rfl | rfl | rfl <;> simp <;> omega)
    have low_ := below_mid LOW.out hm (by omega) (by omega)
    clear LOW SG HQ MG sy sy2 sy3 hm
    have LOW := Lib.hid low_
    have HH := Lib.hid hh
    clear hz24 low_ hh kc0 kf0 kc1 kf1 kc2 kf2 kc3 kf3
    obtain ⟨kc0, kf0, kc1, kf1, kc2, kf2, kc3, kf3, -⟩ := hz26.rd
    go_wp2_with fail
    refine (HG.out HX.out _ _ _ HH.out).mono ?_; rintro e uz27 ⟨rfl, bz28⟩
    have hz29 := hz26.below bz28
    have low_ := LOW.out.trans (bz28.mono LOW.out.size)
    have hh_ := HH.out.below bz28
    clear hz26 bz28 LOW HH kc0 kf0 kc1 kf1 kc2 kf2 kc3 kf3
    have LOW := Lib.hid low_
    clear low_
    have HH := Lib.hid hh_
    clear hh_
    obtain ⟨kc0, kf0, kc1, kf1, kc2, kf2, kc3, kf3, -⟩ := hz29.rd
    go_wp2_with fail
    refine (T.out HX.out _ hz29.1).mono ?_; rintro e uz30 ⟨v1, rfl, -, hrd, b1⟩
    have hz31 := hz29.below b1
    obtain ⟨kj, Aj, nj, cj, Bj, mj, dj, Cj, pj, ej, Ej, qj, sj, tj, rfl⟩ := hrd.six
    have HRD := Lib.hid hrd
    have low_ := LOW.out.trans (b1.mono LOW.out.size)
    have hh_ := HH.out.below b1
    clear LOW HH
    have LOW := Lib.hid low_
    have HH := Lib.hid hh_
    clear hz29 b1 hrd low_ hh_ kc0 kf0 kc1 kf1 kc2 kf2 kc3 kf3
    obtain ⟨kc0, kf0, kc1, kf1, kc2, kf2, kc3, kf3, -⟩ := hz31.rd
    go_wp2_with fail
    refine (CI.out HX.out _ _ hz31.1 HRD.out).mono ?_; rintro e uz32 ⟨cs, rfl, hq, b1⟩
    have hz33 := hz31.below b1
    obtain ⟨kh, Ah, nh, ch, Bh, mh, dh, Ch, ph, eh, Eh, qh, sh, th, e1⟩ := hq.reads.six
    injection e1 with e1
    subst e1
    have HR := Lib.hid hq.reads
    have low_ := LOW.out.trans (b1.mono LOW.out.size)
    have hh_ := HH.out.below b1
    clear LOW HH
    have LOW := Lib.hid low_
    have HH := Lib.hid hh_
    clear hz31 b1 hq HRD CI low_ hh_ kc0 kf0 kc1 kf1 kc2 kf2 kc3 kf3
    obtain ⟨kc0, kf0, kc1, kf1, kc2, kf2, kc3, kf3, -⟩ := hz33.rd
    have lkz34_0 : uz12.heap.size < uz32.heap.size := hz33.lt (x := (uz12.heap.size, 31, #[.int .i64 kg, .slice Ag ng cg, .slice Bg mg dg, .slice Cg pg eg, .slice Eg qg sg, .int .i64 tg])) (by simp)
    have lkz34_1 : uz9.heap.size < uz32.heap.size := hz33.lt (x := (uz9.heap.size, 31, #[.int .i64 kx, .slice Ax nx cx, .slice Bx mx dx, .slice Cx px ex, .slice Ex qx sx, .int .i64 tx])) (by simp)
    have lkz34_2 : uz6.heap.size < uz32.heap.size := hz33.lt (x := (uz6.heap.size, 31, #[.int .i64 kw, .slice Aw nw cw, .slice Bw mw dw, .slice Cw pw ew, .slice Ew qw sw, .int .i64 tw])) (by simp)
    have lkz34_3 : w.heap.size < uz32.heap.size := hz33.lt (x := (w.heap.size, 64, #[.int .i64 x.key, .slice A x.counts.length c, .slice B x.trusts.length d, .slice C x.cells.length e, .slice E' x.slots.length s, .int .i64 x.count])) (by simp)
    have kz34 := hz33.put1 uz32.heap.size 31 #[.int .i64 kh, .slice Ah nh ch, .slice Bh mh dh, .slice Ch ph eh, .slice Eh qh sh, .int .i64 th] rfl
    have low_ := LOW.out.trans ((box_below uz32 (.cells #[.int .i64 kh, .slice Ah nh ch, .slice Bh mh dh, .slice Ch ph eh, .slice Eh qh sh, .int .i64 th] 31)).mono LOW.out.size)
    have hh_ := HH.out.below (box_below uz32 (.cells #[.int .i64 kh, .slice Ah nh ch, .slice Bh mh dh, .slice Ch ph eh, .slice Eh qh sh, .int .i64 th] 31))
    have hr_ := HR.out.grow (box_below uz32 (.cells #[.int .i64 kh, .slice Ah nh ch, .slice Bh mh dh, .slice Ch ph eh, .slice Eh qh sh, .int .i64 th] 31))
    clear hz33 kc0 kf0 kc1 kf1 kc2 kf2 kc3 kf3
    go_upto_region 25 with fail
    generalize World.alloc _ _ = wd at kz34 low_ hh_ hr_ ⊢
    have LOW := Lib.hid low_
    clear low_
    have HH := Lib.hid hh_
    clear hh_
    have HR := Lib.hid hr_
    clear hr_
    obtain ⟨kc0, kf0, kc1, kf1, kc2, kf2, kc3, kf3, kc4, kf4, -⟩ := kz34.rd
    go_wp2_with fail
    refine (QG.out HX.out _ _ _ HR.out (HW.out.below LOW.out).reads).mono ?_; rintro e uz35 ⟨rfl, bz36⟩
    have hz37 := kz34.below bz36
    have hh_ := HH.out.below bz36
    clear kz34 bz36 HH kc0 kf0 kc1 kf1 kc2 kf2 kc3 kf3 kc4 kf4
    have HH := Lib.hid hh_
    clear hh_
    obtain ⟨kc0, kf0, kc1, kf1, kc2, kf2, kc3, kf3, kc4, kf4, -⟩ := hz37.rd
    go_wp2_with fail
    refine (HG.out HX.out _ _ _ HH.out).mono ?_; rintro e uz38 ⟨rfl, bz39⟩
    have hz40 := hz37.below bz39
    clear hz37 bz39 kc0 kf0 kc1 kf1 kc2 kf2 kc3 kf3 kc4 kf4
    have BZ := Lib.hid hz40.1
    clear hz40
    go_wp2_with fail
    go_ret
    exact ⟨rfl, BZ.out⟩
end Go.Proofs.YteoijmejhdocdaaGreatDoor.Mx

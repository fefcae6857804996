import Derived.Test.YteoijmejhdocdaaGreatDoorV33
namespace Go.Proofs.YteoijmejhdocdaaGreatDoor.Mx
open Go.ChangeShapes Go.WideShapes Go.ChangeAt Go.RowKit
set_option linter.unusedVariables false
open Go.Lib (hid)
open Go.Proofs.Tryz
set_option maxRecDepth 20000
set_option maxHeartbeats 64000000
open Value renaming int → O, slice → ψ, bool → φ, agg → σ
open IntKind renaming i64 → U
noncomputable def Gq (x:VolN) (stage:Int):VolN × Int × Int:=
 if (Ah x stage).2 = 0 then ((Bc (Ah x stage).1).1,(Bc (Ah x stage).1).2,0) else ((Ah x stage).1,(Ah x stage).2,0)
theorem OY {x:VolN} (h:x.Inv) (stage:Int):(Gq x stage).1.Inv:=by
 unfold Gq
 split
 ·exact GA (Du h stage)
 ·exact Du h stage
theorem Hk (x:VolN) (v:Value) (w:World) (h:x.Inv) (hv:VolR w w.1.size x v) (stage:Int):Calls prog 88 #[v,O U stage] w (Ci w (Ah x stage)):=Mh x v w h.short hv h.2.1.i64 h.2.2.2.1.1 stage
theorem Ms (x:VolN) (v:Value) (w:World) (h:x.Inv) (hv:VolR w w.1.size x v):Calls prog 93 #[v] w (Ci w (Bc x)):=Ml x v w h.short (h.2.2.2.2.1.fits h.1) (h.2.2.2.2.2.fits h.1) h.pos hv
theorem Le (x:VolN) (v:Value) (w:World) (h:x.Inv) (hv:VolR w w.1.size x v) (slot:Int):Calls prog 95 #[v,O U slot] w (Ci w (Bw x slot)):=KJ x v slot w h.short hv
theorem Qz (x:VolN) (v:Value) (w:World) (h:x.Inv) (hv:VolR w w.1.size x v) (a c0 c1:Int):Calls prog 171 #[v,O U a,σ #[O U c0,O U c1]] w (BN w (Eg x a c0 c1)):=Hv x v w h.short hv h.fit a c0 c1
theorem OJ (x:VolN) (v:Value) (w:World) (h:x.Inv) (hv:VolR w w.1.size x v) (a slot:Int):Calls prog 172 #[v,O U a,O U slot] w (BN w (Eu x a slot)):=Kc x v w h.short hv h.fit a slot
theorem Pu (x:VolN) (v:Value) (w:World) (h:x.Inv) (hv:VolR w w.1.size x v) (a value:Int) (ha:I64 a):Calls prog 57 #[v,O U a,O U value] w (Jh w (Ca x a value)):=by
 obtain ⟨A,cap,B,tc,C,cc,b,off,sc,rfl,hA,hB,hC,hbb,h0,h1,hcap⟩:=hv
 exact GS x A cap B tc C cc b off sc w h.short hcap hA hB hC hbb h0 h1 h.fit a value ha
theorem Ps (x:VolN) (v:Value) (w:World) (h:x.Inv) (hv:VolR w w.1.size x v) (a value:Int) (ha:I64 a):Calls prog 55 #[v,O U a,O U value] w (Jh w (Dx x a value)):=by
 obtain ⟨A,cap,B,tc,C,cc,b,off,sc,rfl,hA,hB,hC,hbb,h0,h1,hcap⟩:=hv
 exact Ky x A cap B tc C cc b off sc w h.short hcap hA hB hC hbb h0 h1 h.fit a value ha
theorem Re (x:VolN) (v:Value) (w:World) (h:x.Inv) (hv:VolR w w.1.size x v) (r:Int):Calls prog 61 #[v,O U r] w (Ci w (AM x r)):=by
 obtain ⟨A,cap,B,tc,C,cc,b,off,sc,rfl,hA,hB,hC,hbb,h0,h1,hcap⟩:=hv
 exact Hr x A cap B tc C cc b off sc w h.short hcap hA hB hC hbb h0 h1 h.fit h.cur r
theorem PI (x:VolN) (v:Value) (w:World) (h:x.Inv) (hv:VolR w w.1.size x v) (r:Int) (hr0:0 <= r) (hr:r < x.counts.length):Calls prog 63 #[v,O U r] w (Ci w (DR x r)):=by
 obtain ⟨A,cap,B,tc,C,cc,b,off,sc,rfl,hA,hB,hC,hbb,h0,h1,hcap⟩:=hv
 exact Lz x A cap B tc C cc b off sc w h.short hcap hA hB hC hbb h0 h1 h.fit h.cur r hr0 hr
theorem QF (x:VolN) (v:Value) (w:World) (h:x.Inv) (hv:VolR w w.1.size x v) (stage:Int):Calls prog 170 #[v,O U stage] w (BN w (Gq x stage)):=by
 have S0:=fun (u:World) (hb:Below w.1.size w u)=>Hk x v u h (hv.grow hb) stage
 obtain ⟨A,cap,B,tc,C,cc,b,off,sc,rfl,hA,hB,hC,hbb,h0,h1,hcap⟩:=hv
 have K0:=hid (show Kept w [(w.1.size + 1 + 1,52,#[O U 0,O U 0]),(w.1.size + 1,31,#[O U 0,ψ none 0 0,ψ none 0 0,ψ none 0 0,ψ none 0 0,O U 0]),(w.1.size,31,#[O U x.key,ψ A x.counts.length cap,ψ B x.trusts.length tc,ψ C x.cells.length cc,ψ (some ⟨b,off,none⟩) 2 sc,O U x.count])] _ from ((((Kept.refl w).put1 _ _ #[O U x.key,ψ A x.counts.length cap,ψ B x.trusts.length tc,ψ C x.cells.length cc,ψ (some ⟨b,off,none⟩) 2 sc,O U x.count] rfl).put1 _ _ #[O U 0,ψ none 0 0,ψ none 0 0,ψ none 0 0,ψ none 0 0,O U 0] (by simp)).put1 _ _ #[O U 0,O U 0] (by simp)))
 have hyI:=Du h stage
 unfold Gq
 generalize Ah x stage = Y at S0 hyI |-
 obtain ⟨y,k⟩:=Y
 simp only [] at S0 hyI |-
 have SO:=hid S0
 have HI:=hid hyI
 clear hA hB hC h0 h1 S0 hyI h
 by_cases hk0:k = 0
 have z_1:=trivial;rotate_left;have z_2:=trivial;rotate_left
 all_goals
  first
   | guard_hyp z_1
     subst hk0;rw [if_pos rfl]
     have F0:=fun (v:Value) (u:World) (hv:VolR u u.1.size y v)=>Ms y v u HI.out hv
     generalize Bc y = Z at F0 |-
     obtain ⟨z,k3⟩:=Z
     have FO:=hid F0
     clear F0
   | rw [if_neg hk0];have hkb:(k != 0) = true:=by simpa using hk0
     clear hk0
  go_enter func170,ntmps170
  go_wp2_with fail
  refine (SO.out _ K0.out.1).mono ?_;rintro e u1 ⟨cs,rfl,hv,hb1⟩
  obtain ⟨A',c',B',d',C',e',b',o',s',e1,-⟩:=hv.reads
  injection e1 with e1;subst e1
  have hk1:=K0.out.below hb1
  have hv1:=hv.mono (show w.1.size + 1 + 1 + 1 <= _ by simp)
  have lo0:w.1.size + 1 + 1 < u1.1.size:=hk1.lt (x:=(w.1.size + 1 + 1,52,#[O U 0,O U 0])) (by simp)
  have lo1:w.1.size + 1 < u1.1.size:=hk1.lt (x:=(w.1.size + 1,31,#[O U 0,ψ none 0 0,ψ none 0 0,ψ none 0 0,ψ none 0 0,O U 0])) (by simp)
  have lo2:w.1.size < u1.1.size:=hk1.lt (x:=(w.1.size,31,#[O U x.key,ψ A x.counts.length cap,ψ B x.trusts.length tc,ψ C x.cells.length cc,ψ (some ⟨b,off,none⟩) 2 sc,O U x.count])) (by simp)
  have hk2:=hk1.put1 u1.1.size 31 #[O U y.key,ψ A' y.counts.length c',ψ B' y.trusts.length d',ψ C' y.cells.length e',ψ (some ⟨b',o',none⟩) 2 s',O U y.count] rfl
  have hv2:=hv1.below ((Below.refl _ _).alloc (lr _) (.cells #[O U y.key,ψ A' y.counts.length c',ψ B' y.trusts.length d',ψ C' y.cells.length e',ψ (some ⟨b',o',none⟩) 2 s',O U y.count] 31))
  clear hb1 hk1 hv hv1 SO
  go_upto_region 2 with fail
  generalize World.alloc u1 _ = u2 at hk2 hv2 |-
  obtain ⟨X0,Y0,X1,Y1,X2,Y2,X3,Y3,-⟩:=hk2.rd
  have HV:=hid hv2
  have KK:=hid hk2
  clear hv2
  clear hk2
  go_wp2_with fail
  first
   | guard_hyp z_1
     refine (FO.out _ _ HV.out.reads).mono ?_;rintro e u3 ⟨cs3,rfl,hv3,hb3⟩
     obtain ⟨A6,c6,B6,n6,C6,e6,b6,o6,s6,e1,-⟩:=hv3.reads
     injection e1 with e1;subst e1
     have hk3:=KK.out.below hb3
     have lu2:=KK.out.1.size
     have lp0:w.1.size + 1 + 1 < u2.1.size:=KK.out.lt (x:=(w.1.size + 1 + 1,52,#[O U 0,O U 0])) (by simp)
     have lp1:w.1.size + 1 < u2.1.size:=KK.out.lt (x:=(w.1.size + 1,31,#[O U 0,ψ none 0 0,ψ none 0 0,ψ none 0 0,ψ none 0 0,O U 0])) (by simp)
     have lp2:w.1.size < u2.1.size:=KK.out.lt (x:=(w.1.size,31,#[O U x.key,ψ A x.counts.length cap,ψ B x.trusts.length tc,ψ C x.cells.length cc,ψ (some ⟨b,off,none⟩) 2 sc,O U x.count])) (by simp)
     have hk4:=hk3.put1 u3.1.size 31 #[O U z.key,ψ A6 z.counts.length c6,ψ B6 z.trusts.length n6,ψ C6 z.cells.length e6,ψ (some ⟨b6,o6,none⟩) 2 s6,O U z.count] rfl
     have hv4:=hv3.below ((Below.refl _ _).alloc (lr _) (.cells #[O U z.key,ψ A6 z.counts.length c6,ψ B6 z.trusts.length n6,ψ C6 z.cells.length e6,ψ (some ⟨b6,o6,none⟩) 2 s6,O U z.count] 31))
     clear hb3 hk3 hv3 HV KK X0 Y0 X1 Y1 X2 Y2 X3 Y3
     go_upto_region 5 with fail
     generalize World.alloc u3 _ = u4 at hk4 hv4 |-
     obtain ⟨X0,Y0,X1,Y1,X2,Y2,X3,Y3,X4,Y4,-⟩:=hk4.rd
     have HV:=hid hv4
     have KK:=hid hk4
     clear hv4 hk4
     go_wp2_with fail
     obtain ⟨w9,e9,⟨d0,d1,d2,d3,d4,d5⟩,⟨f0,f1⟩,hb9,hv9⟩:=Eq (w:=w) (x0:=O U z.key) (x1:=ψ A6 z.counts.length c6) (x2:=ψ B6 z.trusts.length n6) (x3:=ψ C6 z.cells.length e6) (x4:=ψ (some ⟨b6,o6,none⟩) 2 s6) (x5:=O U z.count) (a0:=O U k3) (a1:=O U 0) (KK.out.at_ (p:=w.1.size + 1) (t:=31) (cs:=#[O U 0,ψ none 0 0,ψ none 0 0,ψ none 0 0,ψ none 0 0,O U 0]) (by simp)) (KK.out.at_ (p:=w.1.size + 1 + 1) (t:=52) (cs:=#[O U 0,O U 0]) (by simp)) (by omega) KK.out.1 (by omega) (by omega)
   | obtain ⟨w9,e9,⟨d0,d1,d2,d3,d4,d5⟩,⟨f0,f1⟩,hb9,hv9⟩:=Eq (w:=w) (x0:=O U y.key) (x1:=ψ A' y.counts.length c') (x2:=ψ B' y.trusts.length d') (x3:=ψ C' y.cells.length e') (x4:=ψ (some ⟨b',o',none⟩) 2 s') (x5:=O U y.count) (a0:=O U k) (a1:=O U 0) (KK.out.at_ (p:=w.1.size + 1) (t:=31) (cs:=#[O U 0,ψ none 0 0,ψ none 0 0,ψ none 0 0,ψ none 0 0,O U 0]) (by simp)) (KK.out.at_ (p:=w.1.size + 1 + 1) (t:=52) (cs:=#[O U 0,O U 0]) (by simp)) (by omega) KK.out.1 (by omega) (by omega)
  rw [e9]
  first
   | guard_hyp z_1
     exact bodyPost_ret (v:=.tuple #[σ #[O U z.key,ψ A6 z.counts.length c6,ψ B6 z.trusts.length n6,ψ C6 z.cells.length e6,ψ (some ⟨b6,o6,none⟩) 2 s6,O U z.count],σ #[O U k3,O U 0]]) (by simp [results,results170,go_sem,d0,d1,d2,d3,d4,d5,f0,f1]) rfl ⟨_,rfl,(hv9 _ _ _ (by omega) (by omega) HV.out).mono (by omega),hb9⟩
   | exact bodyPost_ret (v:=.tuple #[σ #[O U y.key,ψ A' y.counts.length c',ψ B' y.trusts.length d',ψ C' y.cells.length e',ψ (some ⟨b',o',none⟩) 2 s',O U y.count],σ #[O U k,O U 0]]) (by simp [results,results170,go_sem,d0,d1,d2,d3,d4,d5,f0,f1]) rfl ⟨_,rfl,(hv9 _ _ _ (by omega) (by omega) HV.out).mono (by omega),hb9⟩

import Derived.Test.YteoijmejhdocdaaGreatDoorV23
namespace Go.Proofs.YteoijmejhdocdaaGreatDoor.Mx
open Go.ChangeShapes Go.WideShapes Go.ChangeAt Go.RowKit
set_option linter.unusedVariables false
open Go.Lib (hid)
open Go.Proofs.Tryz
set_option maxRecDepth 20000
set_option maxHeartbeats 64000000
open Value renaming int → O, slice → ψ, bool → φ, agg → σ
open IntKind renaming i64 → U
noncomputable def slotN (x:VolN) (stage:Int):SlN:=⟨(Dq x.key x.counts (x.count + 1) x.trusts).1,(Dq x.key x.counts (x.count + 1) x.trusts).2.1,if stage = 1 then 0 else (Dq x.key x.counts (x.count + 1) x.trusts).2.2,x.cells⟩
def Ep (x:VolN) (s:SlN):VolN:=if (x.count + 1) % 2 = 0 then { x with s0:=s } else { x with s1:=s }
noncomputable def Ah (x:VolN) (stage:Int):VolN × Int:=
 if ¬ (0 <= stage /\ stage <= 3) then (x,1) else if 10000 <= x.count then (x,3) else if stage = 0 then (x,0) else
 ({ Ep x (slotN x stage) with count:=if stage = 3 then x.count + 1 else x.count },0)
theorem DX:(∀ (x:VolN) (v:Value) (w:World) (hx:x.Short) (hv:VolR w w.1.size x v) (stage:Int) (hs:¬ (0 <= stage /\ stage <= 3)),Calls prog 88 #[v,O U stage] w (Ci w (x,1))) /\
 (∀ (x:VolN) (v:Value) (w:World) (hx:x.Short) (hv:VolR w w.1.size x v) (stage:Int) (hs:0 <= stage /\ stage <= 3) (hc:10000 <= x.count),Calls prog 88 #[v,O U stage] w (Ci w (x,3))) /\
 (∀ (x:VolN) (v:Value) (w:World) (hx:x.Short) (hv:VolR w w.1.size x v) (hc:¬ 10000 <= x.count),Calls prog 88 #[v,O U 0] w (Ci w (x,0))):=by
 refine ⟨fun x v w hx hv stage hs=>(fun (z_1:True)=>?_) trivial,fun x v w hx hv stage hs hc=>(fun (z_2:True)=>?_) trivial,fun x v w hx hv hc=>(fun (z_3:True)=>?_) trivial⟩
 all_goals
  have CO:=hid (fun (u:World) (hb:Below w.1.size w u)=>Fo x v u hx (hv.grow hb))
  obtain ⟨A,cap,B,tc,C,cc,b,off,sc,rfl,hA,hB,hC,hbb,h0,h1,hcap⟩:=hv
  have K0:=hid (show Kept w [(w.1.size + 1,31,#[O U 0,ψ none 0 0,ψ none 0 0,ψ none 0 0,ψ none 0 0,O U 0]),(w.1.size,31,#[O U x.key,ψ A x.counts.length cap,ψ B x.trusts.length tc,ψ C x.cells.length cc,ψ (some ⟨b,off,none⟩) 2 sc,O U x.count])] _ from (((Kept.refl w).put1 _ _ #[O U x.key,ψ A x.counts.length cap,ψ B x.trusts.length tc,ψ C x.cells.length cc,ψ (some ⟨b,off,none⟩) 2 sc,O U x.count] rfl).put1 _ _ #[O U 0,ψ none 0 0,ψ none 0 0,ψ none 0 0,ψ none 0 0,O U 0] (by simp)))
  clear hA hB hC h0 h1
  first
   | guard_hyp z_1
     have I:=hid (fun u=>DD stage 0 3 u (by omega))
     clear hs
   | guard_hyp z_2
     have I:=hid (fun u=>Bm stage 0 3 u hs.1 hs.2)
     have hd:decide (10000 <= x.count) = true:=decide_eq_true hc
     clear hs
   | have I:=hid (fun u=>Bm 0 0 3 u (by omega) (by omega))
     have hd:decide (10000 <= x.count) = false:=decide_eq_false hc
  go_enter func88,ntmps88
  go_wp2_with fail
  refine (CO.out _ K0.out.1).mono ?_;rintro e u1 ⟨vv,rfl,hv,hb1⟩
  have hk1:=K0.out.below hb1
  obtain ⟨A',c',B',d',C',e',b',o',s',rfl,-⟩:=hv.reads
  have hv1:=hv.mono (show w.1.size + 1 + 1 <= _ by simp)
  have hbl:=hv.slotsGet.2.2.2.1
  have lo0:w.1.size + 1 < u1.1.size:=hk1.lt (x:=(w.1.size + 1,31,#[O U 0,ψ none 0 0,ψ none 0 0,ψ none 0 0,ψ none 0 0,O U 0])) (by simp)
  have lo1:w.1.size < u1.1.size:=hk1.lt (x:=(w.1.size,31,#[O U x.key,ψ A x.counts.length cap,ψ B x.trusts.length tc,ψ C x.cells.length cc,ψ (some ⟨b,off,none⟩) 2 sc,O U x.count])) (by simp)
  have hk2:=hk1.put1 u1.1.size 31 #[O U x.key,ψ A' x.counts.length c',ψ B' x.trusts.length d',ψ C' x.cells.length e',ψ (some ⟨b',o',none⟩) 2 s',O U x.count] rfl
  have hv2:=hv1.below ((Below.refl _ _).alloc (lr _) (.cells #[O U x.key,ψ A' x.counts.length c',ψ B' x.trusts.length d',ψ C' x.cells.length e',ψ (some ⟨b',o',none⟩) 2 s',O U x.count] 31))
  clear hb1 hk1 hv hv1 CO
  go_upto_region 2 with fail
  generalize World.alloc u1 _ = u2 at hk2 hv2 |-
  obtain ⟨X0,Y0,X1,Y1,X2,Y2,-⟩:=hk2.rd
  have HV:=hid hv2
  clear hv2
  have KK:=hid hk2
  go_wp2_with fail
  refine (I.out _).mono ?_;rintro e w' ⟨rfl,rfl⟩
  go_wp2_with fail
  obtain ⟨w9,e9,⟨d0,d1,d2,d3,d4,d5⟩,hb9,hg9⟩:=AN (w:=w) (x0:=O U x.key) (x1:=ψ A' x.counts.length c') (x2:=ψ B' x.trusts.length d') (x3:=ψ C' x.cells.length e') (x4:=ψ (some ⟨b',o',none⟩) 2 s') (x5:=O U x.count) (KK.out.at_ (p:=w.1.size + 1) (t:=31) (cs:=#[O U 0,ψ none 0 0,ψ none 0 0,ψ none 0 0,ψ none 0 0,O U 0]) (by simp)) KK.out.1 (by omega)
  rw [e9]
  first
   | guard_hyp z_1
     exact bodyPost_ret (v:=.tuple #[σ #[O U x.key,ψ A' x.counts.length c',ψ B' x.trusts.length d',ψ C' x.cells.length e',ψ (some ⟨b',o',none⟩) 2 s',O U x.count],O U 1]) (by simp [results,results88,go_sem,d0,d1,d2,d3,d4,d5]) rfl ⟨_,rfl,(HV.out.out hg9 (by omega)).mono (by omega),hb9⟩
   | guard_hyp z_2
     exact bodyPost_ret (v:=.tuple #[σ #[O U x.key,ψ A' x.counts.length c',ψ B' x.trusts.length d',ψ C' x.cells.length e',ψ (some ⟨b',o',none⟩) 2 s',O U x.count],O U 3]) (by simp [results,results88,go_sem,d0,d1,d2,d3,d4,d5]) rfl ⟨_,rfl,(HV.out.out hg9 (by omega)).mono (by omega),hb9⟩
   | exact bodyPost_ret (v:=.tuple #[σ #[O U x.key,ψ A' x.counts.length c',ψ B' x.trusts.length d',ψ C' x.cells.length e',ψ (some ⟨b',o',none⟩) 2 s',O U x.count],O U 0]) (by simp [results,results88,go_sem,d0,d1,d2,d3,d4,d5]) rfl ⟨_,rfl,(HV.out.out hg9 (by omega)).mono (by omega),hb9⟩
theorem OA:type_of% DX.1:=DX.1
theorem Me:type_of% DX.2.1:=DX.2.1
theorem MT:type_of% DX.2.2:=DX.2.2
theorem BD:(∀ (x:VolN) (v:Value) (w:World) (hx:x.Short) (hv:VolR w w.1.size x v) (hI:Cx x.trusts) (hc0:0 <= x.count) (hc:¬ 10000 <= x.count) (hpar:(x.count + 1) % 2 = 0),Calls prog 88 #[v,O U 1] w (Ci w ({ x with s0:=slotN x 1 },0))) /\
 (∀ (x:VolN) (v:Value) (w:World) (hx:x.Short) (hv:VolR w w.1.size x v) (hI:Cx x.trusts) (hc0:0 <= x.count) (hc:¬ 10000 <= x.count) (hpar:(x.count + 1) % 2 = 1),Calls prog 88 #[v,O U 1] w (Ci w ({ x with s1:=slotN x 1 },0))) /\
 (∀ (x:VolN) (v:Value) (w:World) (hx:x.Short) (hv:VolR w w.1.size x v) (hI:Cx x.trusts) (hc0:0 <= x.count) (hc:¬ 10000 <= x.count) (hpar:(x.count + 1) % 2 = 0),Calls prog 88 #[v,O U 2] w (Ci w ({ x with s0:=slotN x 2 },0))) /\
 (∀ (x:VolN) (v:Value) (w:World) (hx:x.Short) (hv:VolR w w.1.size x v) (hI:Cx x.trusts) (hc0:0 <= x.count) (hc:¬ 10000 <= x.count) (hpar:(x.count + 1) % 2 = 1),Calls prog 88 #[v,O U 2] w (Ci w ({ x with s1:=slotN x 2 },0))) /\
 (∀ (x:VolN) (v:Value) (w:World) (hx:x.Short) (hv:VolR w w.1.size x v) (hI:Cx x.trusts) (hc0:0 <= x.count) (hc:¬ 10000 <= x.count) (hpar:(x.count + 1) % 2 = 0),Calls prog 88 #[v,O U 3] w (Ci w ({ x with s0:=slotN x 3,count:=x.count + 1 },0))) /\
 (∀ (x:VolN) (v:Value) (w:World) (hx:x.Short) (hv:VolR w w.1.size x v) (hI:Cx x.trusts) (hc0:0 <= x.count) (hc:¬ 10000 <= x.count) (hpar:(x.count + 1) % 2 = 1),Calls prog 88 #[v,O U 3] w (Ci w ({ x with s1:=slotN x 3,count:=x.count + 1 },0))):=by
 refine ⟨fun x v w hx hv hI hc0 hc hpar=>(fun (z_1:True)=>?_) trivial,fun x v w hx hv hI hc0 hc hpar=>(fun (z_2:True)=>?_) trivial,fun x v w hx hv hI hc0 hc hpar=>(fun (z_3:True)=>?_) trivial,fun x v w hx hv hI hc0 hc hpar=>(fun (z_4:True)=>?_) trivial,fun x v w hx hv hI hc0 hc hpar=>(fun (z_5:True)=>?_) trivial,fun x v w hx hv hI hc0 hc hpar=>(fun (z_6:True)=>?_) trivial⟩
 all_goals
  have CO:=hid (fun (u:World) (hb:Below w.1.size w u)=>Fo x v u hx (hv.grow hb))
  obtain ⟨A,cap,B,tc,C,cc,b,off,sc,rfl,hA,hB,hC,hbb,h0,h1,hcap⟩:=hv
  have K0:=hid (show Kept w [(w.1.size + 1,31,#[O U 0,ψ none 0 0,ψ none 0 0,ψ none 0 0,ψ none 0 0,O U 0]),(w.1.size,31,#[O U x.key,ψ A x.counts.length cap,ψ B x.trusts.length tc,ψ C x.cells.length cc,ψ (some ⟨b,off,none⟩) 2 sc,O U x.count])] _ from (((Kept.refl w).put1 _ _ #[O U x.key,ψ A x.counts.length cap,ψ B x.trusts.length tc,ψ C x.cells.length cc,ψ (some ⟨b,off,none⟩) 2 sc,O U x.count] rfl).put1 _ _ #[O U 0,ψ none 0 0,ψ none 0 0,ψ none 0 0,ψ none 0 0,O U 0] (by simp)))
  first
   | first | guard_hyp z_1 | guard_hyp z_2
     have I:=hid (fun u=>Bm 1 0 3 u (by omega) (by omega))
   | first | guard_hyp z_3 | guard_hyp z_4
     have I:=hid (fun u=>Bm 2 0 3 u (by omega) (by omega))
   | have I:=hid (fun u=>Bm 3 0 3 u (by omega) (by omega))
  have hd:decide (10000 <= x.count) = false:=decide_eq_false hc
  have S0:=fun (u:World) (hb:Below w.1.size w u)=>Gf x.key A x.counts cap (x.count + 1) B x.trusts tc u (by have:=hx.1;unfold maxLen;omega) ((hA.below hb (lr _)).more hb.size) hx.2.1 ((hB.below hb (lr _)).more hb.size) hI ⟨by omega,by omega⟩
  have NW:=hid (fun (u:World) (hb:Below w.1.size w u)=>Sls.news Au (by omega) (hC.below hb (lr _)))
  have hx3:=hx.2.2.1
  unfold slotN
  generalize Dq x.key x.counts (x.count + 1) x.trusts = sl at S0 |-
  obtain ⟨scn,sT,smc⟩:=sl
  simp only [] at S0 |-
  have SO:=hid S0
  obtain ⟨n1,hn1⟩:∃ n1,n1 = x.count + 1:=⟨_,rfl⟩
  have hw1:IntKind.i64.wrap (x.count + 1) = n1:=by rw [hn1];exact IntWalk.i64_in _ (by omega)
  have hn1p:0 <= n1 /\ n1 <= 10000:=by omega
  first
   | guard_hyp z_5
     have hm1:n1 % 2 = 0:=by rw [hn1];exact hpar
     have ht1:Int.tmod n1 2 = 0:=by rw [Int.tmod_eq_emod_of_nonneg hn1p.1];exact hm1
     rw [<- hn1] at SO |-
   | guard_hyp z_6
     have hm1:n1 % 2 = 1:=by rw [hn1];exact hpar
     have ht1:Int.tmod n1 2 = 1:=by rw [Int.tmod_eq_emod_of_nonneg hn1p.1];exact hm1
     rw [<- hn1] at SO |-
   | first | guard_hyp z_1 | guard_hyp z_3
     have hm1:n1 % 2 = 0:=by rw [hn1];exact hpar
     have ht1:Int.tmod n1 2 = 0:=by rw [Int.tmod_eq_emod_of_nonneg hn1p.1];exact hm1
     rw [<- hn1] at SO
   | have hm1:n1 % 2 = 1:=by rw [hn1];exact hpar
     have ht1:Int.tmod n1 2 = 1:=by rw [Int.tmod_eq_emod_of_nonneg hn1p.1];exact hm1
     rw [<- hn1] at SO
  have HN1:=hid hn1
  have HPAR:=hid hpar
  clear hA hB hC h0 h1 S0 hpar hn1 hI
  go_enter func88,ntmps88
  go_wp2_with fail
  refine (CO.out _ K0.out.1).mono ?_;rintro e u1 ⟨vv,rfl,hv,hb1⟩
  have hk1:=K0.out.below hb1
  obtain ⟨A',c',B',d',C',e',b',o',s',rfl,-⟩:=hv.reads
  have hv1:=hv.mono (show w.1.size + 1 + 1 <= _ by simp)
  have hbl:=hv.slotsGet.2.2.2.1
  have lo0:w.1.size + 1 < u1.1.size:=hk1.lt (x:=(w.1.size + 1,31,#[O U 0,ψ none 0 0,ψ none 0 0,ψ none 0 0,ψ none 0 0,O U 0])) (by simp)
  have lo1:w.1.size < u1.1.size:=hk1.lt (x:=(w.1.size,31,#[O U x.key,ψ A x.counts.length cap,ψ B x.trusts.length tc,ψ C x.cells.length cc,ψ (some ⟨b,off,none⟩) 2 sc,O U x.count])) (by simp)
  have hk2:=hk1.put1 u1.1.size 31 #[O U x.key,ψ A' x.counts.length c',ψ B' x.trusts.length d',ψ C' x.cells.length e',ψ (some ⟨b',o',none⟩) 2 s',O U x.count] rfl
  have hv2:=hv1.below ((Below.refl _ _).alloc (lr _) (.cells #[O U x.key,ψ A' x.counts.length c',ψ B' x.trusts.length d',ψ C' x.cells.length e',ψ (some ⟨b',o',none⟩) 2 s',O U x.count] 31))
  have BU0:=hid ((Below.refl u1.1.size u1).alloc (lr _) (.cells #[O U x.key,ψ A' x.counts.length c',ψ B' x.trusts.length d',ψ C' x.cells.length e',ψ (some ⟨b',o',none⟩) 2 s',O U x.count] 31))
  have HU:=hid hv1
  clear hb1 hk1 hv hv1 CO
  go_upto_region 2 with fail
  have bu:=BU0.out
  clear BU0 hv2
  generalize World.alloc u1 _ = u2 at hk2 bu |-
  have BU:=hid bu
  clear bu
  obtain ⟨X0,Y0,X1,Y1,X2,Y2,-⟩:=hk2.rd
  have KK:=hid hk2
  go_wp2_with fail
  refine (I.out _).mono ?_;rintro e w' ⟨rfl,rfl⟩
  go_wp2_with fail
  refine (SO.out _ KK.out.1).mono ?_;rintro e u3 ⟨A9,c9,rfl,hr3,b3⟩
  have hk3:=KK.out.below b3
  have bu3:=BU.out.trans (b3.mono BU.out.size)
  have lu2:u1.1.size < u2.1.size:=KK.out.lt (x:=(u1.1.size,31,#[O U x.key,ψ A' x.counts.length c',ψ B' x.trusts.length d',ψ C' x.cells.length e',ψ (some ⟨b',o',none⟩) 2 s',O U x.count])) (by simp)
  clear b3 KK BU SO hk2 X0 Y0 X1 Y1 X2 Y2
  have lp0:u1.1.size < u3.1.size:=hk3.lt (x:=(u1.1.size,31,#[O U x.key,ψ A' x.counts.length c',ψ B' x.trusts.length d',ψ C' x.cells.length e',ψ (some ⟨b',o',none⟩) 2 s',O U x.count])) (by simp)
  have lp1:w.1.size + 1 < u3.1.size:=hk3.lt (x:=(w.1.size + 1,31,#[O U 0,ψ none 0 0,ψ none 0 0,ψ none 0 0,ψ none 0 0,O U 0])) (by simp)
  have lp2:w.1.size < u3.1.size:=hk3.lt (x:=(w.1.size,31,#[O U x.key,ψ A x.counts.length cap,ψ B x.trusts.length tc,ψ C x.cells.length cc,ψ (some ⟨b,off,none⟩) 2 sc,O U x.count])) (by simp)
  have hk4:=hk3.put1 u3.1.size 89 #[O U scn,ψ A9 sT.length c9,O U smc] rfl
  have bu4:=bu3.alloc (by omega) (.cells #[O U scn,ψ A9 sT.length c9,O U smc] 89)
  have hr4:=hr3.alloc (.cells #[O U scn,ψ A9 sT.length c9,O U smc] 89)
  have hq4:=(Below.refl u3.1.size u3).alloc (lr _) (.cells #[O U scn,ψ A9 sT.length c9,O U smc] 89)
  have hra:=fun y hy=>(Ax hr3 y hy)
  clear hk3 bu3 hr3
  go_upto_region 8 with fail
  generalize World.alloc u3 _ = u4 at hk4 bu4 hr4 hq4 |-
  obtain ⟨X0,Y0,X1,Y1,X2,Y2,X3,Y3,-⟩:=hk4.rd
  go_upto_region 10 with fail
  first
   | first | guard_hyp z_1 | guard_hyp z_2
     have hg5:=Ai (Aj u4 (some u3.1.size)) 2 (O U 0)
     have hk5:Kept w [(u3.1.size,89,#[O U scn,ψ A9 sT.length c9,O U 0]),(u1.1.size,31,#[O U x.key,ψ A' x.counts.length c',ψ B' x.trusts.length d',ψ C' x.cells.length e',ψ (some ⟨b',o',none⟩) 2 s',O U x.count]),(w.1.size + 1,31,#[O U 0,ψ none 0 0,ψ none 0 0,ψ none 0 0,ψ none 0 0,O U 0]),(w.1.size,31,#[O U x.key,ψ A x.counts.length cap,ψ B x.trusts.length tc,ψ C x.cells.length cc,ψ (some ⟨b,off,none⟩) 2 sc,O U x.count])] _:=hk4.put (k:=0) rfl (by unfold Apart;simp;omega) hg5 ((hk4.at_ (p:=u3.1.size) (t:=89) (cs:=#[O U scn,ψ A9 sT.length c9,O U smc]) (by simp)).set_ 2 _)
     have bu5:=bgb bu4 hg5 bu4.size (by omega)
     have hr5:=AK hr4 hg5 (fun hm=>by have:=(hra _ hm).2;omega)
     have hq5:=bgb hq4 hg5 hq4.size (lr _)
     clear hk4 bu4 hr4 hq4 hg5 X0 Y0 X1 Y1 X2 Y2 X3 Y3
     generalize World.setCell u4 _ _ = u5 at hk5 bu5 hr5 hq5 |-
     obtain ⟨X0,Y0,X1,Y1,X2,Y2,X3,Y3,-⟩:=hk5.rd
   | skip
  obtain ⟨eo,es,hbb2,hbu,A0,c0,C0,d0,A1,c1,C1,d1,hsl,-⟩:=HU.out.slotsGet
  subst eo
  subst es
  first
   | first | guard_hyp z_1 | guard_hyp z_2
     have hsz:u3.1.size < u5.1.size:=hk5.lt (x:=(u3.1.size,89,#[O U scn,ψ A9 sT.length c9,O U 0])) (by simp)
     have hsl5:Aa u5 b' 91 #[O U x.s0.count,ψ A0 x.s0.trusts.length c0,O U x.s0.mac,ψ C0 x.s0.cells.length d0,O U x.s1.count,ψ A1 x.s1.trusts.length c1,O U x.s1.mac,ψ C1 x.s1.cells.length d1]:=hsl.below bu5 hbu
     have lb5:b' < u5.1.size:=by omega
     have hLlt:∀ y ∈ ([(u3.1.size,89,#[O U scn,ψ A9 sT.length c9,O U 0]),(u1.1.size,31,#[O U x.key,ψ A' x.counts.length c',ψ B' x.trusts.length d',ψ C' x.cells.length e',ψ (some ⟨b',0,none⟩) 2 2,O U x.count]),(w.1.size + 1,31,#[O U 0,ψ none 0 0,ψ none 0 0,ψ none 0 0,ψ none 0 0,O U 0]),(w.1.size,31,#[O U x.key,ψ A x.counts.length cap,ψ B x.trusts.length tc,ψ C x.cells.length cc,ψ (some ⟨b,off,none⟩) 2 sc,O U x.count])]:List Box),y.1 < u5.1.size:=fun y hy=>hk5.lt hy
     have hLne:∀ y ∈ ([(u3.1.size,89,#[O U scn,ψ A9 sT.length c9,O U 0]),(u1.1.size,31,#[O U x.key,ψ A' x.counts.length c',ψ B' x.trusts.length d',ψ C' x.cells.length e',ψ (some ⟨b',0,none⟩) 2 2,O U x.count]),(w.1.size + 1,31,#[O U 0,ψ none 0 0,ψ none 0 0,ψ none 0 0,ψ none 0 0,O U 0]),(w.1.size,31,#[O U x.key,ψ A x.counts.length cap,ψ B x.trusts.length tc,ψ C x.cells.length cc,ψ (some ⟨b,off,none⟩) 2 sc,O U x.count])]:List Box),y.1 ≠ b':=by intro y hy;simp at hy;rcases hy with rfl | rfl | rfl | rfl <;> simp <;> omega
   | have hsz:u3.1.size < u4.1.size:=hk4.lt (x:=(u3.1.size,89,#[O U scn,ψ A9 sT.length c9,O U smc])) (by simp)
     have hsl5:Aa u4 b' 91 #[O U x.s0.count,ψ A0 x.s0.trusts.length c0,O U x.s0.mac,ψ C0 x.s0.cells.length d0,O U x.s1.count,ψ A1 x.s1.trusts.length c1,O U x.s1.mac,ψ C1 x.s1.cells.length d1]:=hsl.below bu4 hbu
     have lb5:b' < u4.1.size:=by omega
     have hLlt:∀ y ∈ ([(u3.1.size,89,#[O U scn,ψ A9 sT.length c9,O U smc]),(u1.1.size,31,#[O U x.key,ψ A' x.counts.length c',ψ B' x.trusts.length d',ψ C' x.cells.length e',ψ (some ⟨b',0,none⟩) 2 2,O U x.count]),(w.1.size + 1,31,#[O U 0,ψ none 0 0,ψ none 0 0,ψ none 0 0,ψ none 0 0,O U 0]),(w.1.size,31,#[O U x.key,ψ A x.counts.length cap,ψ B x.trusts.length tc,ψ C x.cells.length cc,ψ (some ⟨b,off,none⟩) 2 sc,O U x.count])]:List Box),y.1 < u4.1.size:=fun y hy=>hk4.lt hy
     have hLne:∀ y ∈ ([(u3.1.size,89,#[O U scn,ψ A9 sT.length c9,O U smc]),(u1.1.size,31,#[O U x.key,ψ A' x.counts.length c',ψ B' x.trusts.length d',ψ C' x.cells.length e',ψ (some ⟨b',0,none⟩) 2 2,O U x.count]),(w.1.size + 1,31,#[O U 0,ψ none 0 0,ψ none 0 0,ψ none 0 0,ψ none 0 0,O U 0]),(w.1.size,31,#[O U x.key,ψ A x.counts.length cap,ψ B x.trusts.length tc,ψ C x.cells.length cc,ψ (some ⟨b,off,none⟩) 2 sc,O U x.count])]:List Box),y.1 ≠ b':=by intro y hy;simp at hy;rcases hy with rfl | rfl | rfl | rfl <;> simp <;> omega
  clear X0 Y0 X1 Y1 X2 Y2 X3 Y3
  first
   | guard_hyp z_1
     refine Ao [false,false,false,false,false,false,false,true,false,false,true,false,false,true] (ShL [(7,fun v=>∃ g:Nat,v = ψ (some ⟨g,0,none⟩) 0 0),(10,fun v=>∃ (A:Option Addr) (c:Nat),v = ψ A x.cells.length c)]) (fun D γ u=>Eh w u5 [(u3.1.size,89,#[O U scn,ψ A9 sT.length c9,O U 0]),(u1.1.size,31,#[O U x.key,ψ A' x.counts.length c',ψ B' x.trusts.length d',ψ C' x.cells.length e',ψ (some ⟨b',0,none⟩) 2 2,O U x.count]),(w.1.size + 1,31,#[O U 0,ψ none 0 0,ψ none 0 0,ψ none 0 0,ψ none 0 0,O U 0]),(w.1.size,31,#[O U x.key,ψ A x.counts.length cap,ψ B x.trusts.length tc,ψ C x.cells.length cc,ψ (some ⟨b,off,none⟩) 2 sc,O U x.count])] x.cells b' 91 #[O U x.s0.count,ψ A0 x.s0.trusts.length c0,O U x.s0.mac,ψ C0 x.s0.cells.length d0,O U x.s1.count,ψ A1 x.s1.trusts.length c1,O U x.s1.mac,ψ C1 x.s1.cells.length d1] (fun v=>#[O U scn,ψ A9 sT.length c9,O U 0,v,O U x.s1.count,ψ A1 x.s1.trusts.length c1,O U x.s1.mac,ψ C1 x.s1.cells.length d1]) D γ u) (by kernel_rfl) (by kernel_rfl) (fun γ=>by kernel_rfl) (fun D γ γ' w ha h=>h.loc ha) (ShL.inh _ ?inh) (fun γ=>Eh.start hk5 hsl5) (fun γ hγ=>?_)
   | guard_hyp z_2
     refine Ao [false,false,false,false,false,false,false,true,false,false,true,false,false,true] (ShL [(7,fun v=>∃ g:Nat,v = ψ (some ⟨g,0,none⟩) 0 0),(10,fun v=>∃ (A:Option Addr) (c:Nat),v = ψ A x.cells.length c)]) (fun D γ u=>Eh w u5 [(u3.1.size,89,#[O U scn,ψ A9 sT.length c9,O U 0]),(u1.1.size,31,#[O U x.key,ψ A' x.counts.length c',ψ B' x.trusts.length d',ψ C' x.cells.length e',ψ (some ⟨b',0,none⟩) 2 2,O U x.count]),(w.1.size + 1,31,#[O U 0,ψ none 0 0,ψ none 0 0,ψ none 0 0,ψ none 0 0,O U 0]),(w.1.size,31,#[O U x.key,ψ A x.counts.length cap,ψ B x.trusts.length tc,ψ C x.cells.length cc,ψ (some ⟨b,off,none⟩) 2 sc,O U x.count])] x.cells b' 91 #[O U x.s0.count,ψ A0 x.s0.trusts.length c0,O U x.s0.mac,ψ C0 x.s0.cells.length d0,O U x.s1.count,ψ A1 x.s1.trusts.length c1,O U x.s1.mac,ψ C1 x.s1.cells.length d1] (fun v=>#[O U x.s0.count,ψ A0 x.s0.trusts.length c0,O U x.s0.mac,ψ C0 x.s0.cells.length d0,O U scn,ψ A9 sT.length c9,O U 0,v]) D γ u) (by kernel_rfl) (by kernel_rfl) (fun γ=>by kernel_rfl) (fun D γ γ' w ha h=>h.loc ha) (ShL.inh _ ?inh) (fun γ=>Eh.start hk5 hsl5) (fun γ hγ=>?_)
   | first | guard_hyp z_3 | guard_hyp z_5
     refine Ao [false,false,false,false,false,false,false,true,false,false,true,false,false,true] (ShL [(7,fun v=>∃ g:Nat,v = ψ (some ⟨g,0,none⟩) 0 0),(10,fun v=>∃ (A:Option Addr) (c:Nat),v = ψ A x.cells.length c)]) (fun D γ u=>Eh w u4 [(u3.1.size,89,#[O U scn,ψ A9 sT.length c9,O U smc]),(u1.1.size,31,#[O U x.key,ψ A' x.counts.length c',ψ B' x.trusts.length d',ψ C' x.cells.length e',ψ (some ⟨b',0,none⟩) 2 2,O U x.count]),(w.1.size + 1,31,#[O U 0,ψ none 0 0,ψ none 0 0,ψ none 0 0,ψ none 0 0,O U 0]),(w.1.size,31,#[O U x.key,ψ A x.counts.length cap,ψ B x.trusts.length tc,ψ C x.cells.length cc,ψ (some ⟨b,off,none⟩) 2 sc,O U x.count])] x.cells b' 91 #[O U x.s0.count,ψ A0 x.s0.trusts.length c0,O U x.s0.mac,ψ C0 x.s0.cells.length d0,O U x.s1.count,ψ A1 x.s1.trusts.length c1,O U x.s1.mac,ψ C1 x.s1.cells.length d1] (fun v=>#[O U scn,ψ A9 sT.length c9,O U smc,v,O U x.s1.count,ψ A1 x.s1.trusts.length c1,O U x.s1.mac,ψ C1 x.s1.cells.length d1]) D γ u) (by kernel_rfl) (by kernel_rfl) (fun γ=>by kernel_rfl) (fun D γ γ' w ha h=>h.loc ha) (ShL.inh _ ?inh) (fun γ=>Eh.start hk4 hsl5) (fun γ hγ=>?_)
   | refine Ao [false,false,false,false,false,false,false,true,false,false,true,false,false,true] (ShL [(7,fun v=>∃ g:Nat,v = ψ (some ⟨g,0,none⟩) 0 0),(10,fun v=>∃ (A:Option Addr) (c:Nat),v = ψ A x.cells.length c)]) (fun D γ u=>Eh w u4 [(u3.1.size,89,#[O U scn,ψ A9 sT.length c9,O U smc]),(u1.1.size,31,#[O U x.key,ψ A' x.counts.length c',ψ B' x.trusts.length d',ψ C' x.cells.length e',ψ (some ⟨b',0,none⟩) 2 2,O U x.count]),(w.1.size + 1,31,#[O U 0,ψ none 0 0,ψ none 0 0,ψ none 0 0,ψ none 0 0,O U 0]),(w.1.size,31,#[O U x.key,ψ A x.counts.length cap,ψ B x.trusts.length tc,ψ C x.cells.length cc,ψ (some ⟨b,off,none⟩) 2 sc,O U x.count])] x.cells b' 91 #[O U x.s0.count,ψ A0 x.s0.trusts.length c0,O U x.s0.mac,ψ C0 x.s0.cells.length d0,O U x.s1.count,ψ A1 x.s1.trusts.length c1,O U x.s1.mac,ψ C1 x.s1.cells.length d1] (fun v=>#[O U x.s0.count,ψ A0 x.s0.trusts.length c0,O U x.s0.mac,ψ C0 x.s0.cells.length d0,O U scn,ψ A9 sT.length c9,O U smc,v]) D γ u) (by kernel_rfl) (by kernel_rfl) (fun γ=>by kernel_rfl) (fun D γ γ' w ha h=>h.loc ha) (ShL.inh _ ?inh) (fun γ=>Eh.start hk4 hsl5) (fun γ hγ=>?_)
  case inh=>
   intro y hy
   simp only [List.mem_cons,List.not_mem_nil,or_false] at hy
   rcases hy with rfl | rfl
   ·exact ⟨_,0,rfl⟩
   ·exact ⟨_,none,0,rfl⟩
  obtain ⟨g7,e7⟩:∃ g:Nat,γ 7 = ψ (some ⟨g,0,none⟩) 0 0:=hγ 7 rfl
  obtain ⟨C9,d9,e10⟩:∃ (A:Option Addr) (c:Nat),γ 10 = ψ A x.cells.length c:=hγ 10 rfl
  have e13:γ 13 = undef:=hγ 13 rfl
  first
   | first | guard_hyp z_1 | guard_hyp z_2
     have HKS:=hid hk5
     clear hk5
   | have HKS:=hid hk4
     clear hk4
  apply Exists.intro
  refine ⟨fun D=>?_,?_,?_⟩
  ·simp only [AP,cond_true,cond_false,Nat.reduceAdd,e7,e10,e13]
   iterate 14 (first
    | go_big_quiet_skip
    | (go_big_quiet_want
       go_big_quiet_op
       first
        | go_big_quiet_on
        | (apply Exists.intro
           refine ⟨fun u hu=>?_,?_⟩
           ·first
              | with_reducible rfl
              | (obtain ⟨X0,Y0,X1,Y1,X2,Y2,X3,Y3,-⟩:=hu.1.rd;go_simp;first | done | with_reducible rfl)
           go_big_quiet_on)))
   exact wpQuiet_nil rfl
  first
   | guard_hyp z_1
     ·simp only [AY,Nat.reduceAdd]
      refine ⟨fun D u hD hd hu=>?_,fun D u hD hd hu=>?_,fun D u hD hd hu=>?_,trivial⟩
      ·refine BQ 28 118 rfl underlying28 (by kernel_rfl) ?_
       exact ⟨⟨_,rfl⟩,hu.build hD lb5⟩
      ·have d7:=hd { on:=7,ground:=Ground.data } (by simp) rfl rfl
       have hrow:=hu.2.2.2.2.1 d7 hD
       rw [e7] at hrow
       refine Cr _ _ 28 rfl u5.1.size 118 2 16 0 (σ #[O U 0,O U 0]) (ψ (some ⟨g7,0,none⟩) 0 0) [] C x.cells.length cc (Af ceV x.cells) underlying28 Dp rfl (by omega) rfl hrow rfl (Ak Au) (NW.out u hu.1.1) (DW x.cells) (by unfold maxLen;omega) (by omega) hu.2.1.size ?_
       intro v' w' hown hg hb2
       have hr9:Bv w' u5.1.size v' x.cells:=by have h:=hown;simp only [Nat.zero_add,List.nil_append] at h;exact h
       obtain ⟨A6,c6,rfl,_,_⟩:=hr9.reads Au
       exact ⟨⟨_,_,rfl⟩,hu.append d7 hD lb5 hLlt HKS.out.1.size e7 hr9 (by simpa [Value.ownBlock] using hg)⟩
      ·have d10:=hd { on:=10,ground:=Ground.phase } (by simp) rfl rfl
       exact DU (off:=0) (hu.2.2.1 hD) (by simp) rfl rfl rfl (by kernel_rfl) (by simp [Value.oneCell']) (fun w' hc hg=>⟨rfl,hu.store d10 lb5 (by omega) hLne hg (by simp only [e10];simpa using hc)⟩)
     ·intro D uf hD hu
      have hf:=hu.1
      have hgf:=hu.2.1
      have hcs:=hu.2.2.2.1 (hD 13 (by simp) rfl)
      have hrc:=hu.2.2.2.2.2.1 (hD 10 (by simp) rfl)
      simp only [e10] at hcs hrc
      clear hu hD HKS hγ e7 e10 e13
      have hg15:=Ar (BV bu5 (some b')) hgf
      have hrs:=AK hr5 hgf (fun hm=>by have:=(hra _ hm).1;omega)
      have hlts:∀ y ∈ Ae (ψ A9 sT.length c9),y < u5.1.size:=fun y hy=>by have:=(hra y hy).2;omega
      have hsep:=Da hlts (fun y hy=>(Ax hrc y hy).1)
      have hvf:=HU.out.slotPut0 (s:=⟨scn,sT,0,x.cells⟩) hrs hrc (by omega) (by omega) hsep hsl hg15 (by simpa using hcs)
      clear hcs hrc hrs hsep hlts hg15 hgf hsl hsl5 bu5 hr5
      obtain ⟨X0,Y0,X1,Y1,X2,Y2,X3,Y3,-⟩:=hf.rd
      have HV:=hid hvf
      have KK:=hid hf
      clear hvf hf HU
      go_wp2_with fail
      obtain ⟨w9,e9,⟨d0,d1,d2,d3,d4,d5⟩,hb9,hg9⟩:=AN (w:=w) (x0:=O U x.key) (x1:=ψ A' x.counts.length c') (x2:=ψ B' x.trusts.length d') (x3:=ψ C' x.cells.length e') (x4:=ψ (some ⟨b',0,none⟩) 2 2) (x5:=O U x.count) (KK.out.at_ (p:=w.1.size + 1) (t:=31) (cs:=#[O U 0,ψ none 0 0,ψ none 0 0,ψ none 0 0,ψ none 0 0,O U 0]) (by simp)) KK.out.1 (by omega)
      rw [e9]
      exact bodyPost_ret (v:=.tuple #[σ #[O U x.key,ψ A' x.counts.length c',ψ B' x.trusts.length d',ψ C' x.cells.length e',ψ (some ⟨b',0,none⟩) 2 2,O U x.count],O U 0]) (by simp [results,results88,go_sem,d0,d1,d2,d3,d4,d5]) rfl ⟨_,rfl,(HV.out.out hg9 (by omega)).mono (by omega),hb9⟩
   | guard_hyp z_2
     ·simp only [AY,Nat.reduceAdd]
      refine ⟨fun D u hD hd hu=>?_,fun D u hD hd hu=>?_,fun D u hD hd hu=>?_,trivial⟩
      ·refine BQ 28 118 rfl underlying28 (by kernel_rfl) ?_
       exact ⟨⟨_,rfl⟩,hu.build hD lb5⟩
      ·have d7:=hd { on:=7,ground:=Ground.data } (by simp) rfl rfl
       have hrow:=hu.2.2.2.2.1 d7 hD
       rw [e7] at hrow
       refine Cr _ _ 28 rfl u5.1.size 118 2 16 0 (σ #[O U 0,O U 0]) (ψ (some ⟨g7,0,none⟩) 0 0) [] C x.cells.length cc (Af ceV x.cells) underlying28 Dp rfl (by omega) rfl hrow rfl (Ak Au) (NW.out u hu.1.1) (DW x.cells) (by unfold maxLen;omega) (by omega) hu.2.1.size ?_
       intro v' w' hown hg hb2
       have hr9:Bv w' u5.1.size v' x.cells:=by have h:=hown;simp only [Nat.zero_add,List.nil_append] at h;exact h
       obtain ⟨A6,c6,rfl,_,_⟩:=hr9.reads Au
       exact ⟨⟨_,_,rfl⟩,hu.append d7 hD lb5 hLlt HKS.out.1.size e7 hr9 (by simpa [Value.ownBlock] using hg)⟩
      ·have d10:=hd { on:=10,ground:=Ground.phase } (by simp) rfl rfl
       exact DU (off:=4) (hu.2.2.1 hD) (by simp) rfl rfl rfl (by kernel_rfl) (by simp [Value.oneCell']) (fun w' hc hg=>⟨rfl,hu.store d10 lb5 (by omega) hLne hg (by simp only [e10];simpa using hc)⟩)
     ·intro D uf hD hu
      have hf:=hu.1
      have hgf:=hu.2.1
      have hcs:=hu.2.2.2.1 (hD 13 (by simp) rfl)
      have hrc:=hu.2.2.2.2.2.1 (hD 10 (by simp) rfl)
      simp only [e10] at hcs hrc
      clear hu hD HKS hγ e7 e10 e13
      have hg15:=Ar (BV bu5 (some b')) hgf
      have hrs:=AK hr5 hgf (fun hm=>by have:=(hra _ hm).1;omega)
      have hlts:∀ y ∈ Ae (ψ A9 sT.length c9),y < u5.1.size:=fun y hy=>by have:=(hra y hy).2;omega
      have hsep:=Da hlts (fun y hy=>(Ax hrc y hy).1)
      have hvf:=HU.out.slotPut1 (s:=⟨scn,sT,0,x.cells⟩) hrs hrc (by omega) (by omega) hsep hsl hg15 (by simpa using hcs)
      clear hcs hrc hrs hsep hlts hg15 hgf hsl hsl5 bu5 hr5
      obtain ⟨X0,Y0,X1,Y1,X2,Y2,X3,Y3,-⟩:=hf.rd
      have HV:=hid hvf
      have KK:=hid hf
      clear hvf hf HU
      go_wp2_with fail
      obtain ⟨w9,e9,⟨d0,d1,d2,d3,d4,d5⟩,hb9,hg9⟩:=AN (w:=w) (x0:=O U x.key) (x1:=ψ A' x.counts.length c') (x2:=ψ B' x.trusts.length d') (x3:=ψ C' x.cells.length e') (x4:=ψ (some ⟨b',0,none⟩) 2 2) (x5:=O U x.count) (KK.out.at_ (p:=w.1.size + 1) (t:=31) (cs:=#[O U 0,ψ none 0 0,ψ none 0 0,ψ none 0 0,ψ none 0 0,O U 0]) (by simp)) KK.out.1 (by omega)
      rw [e9]
      exact bodyPost_ret (v:=.tuple #[σ #[O U x.key,ψ A' x.counts.length c',ψ B' x.trusts.length d',ψ C' x.cells.length e',ψ (some ⟨b',0,none⟩) 2 2,O U x.count],O U 0]) (by simp [results,results88,go_sem,d0,d1,d2,d3,d4,d5]) rfl ⟨_,rfl,(HV.out.out hg9 (by omega)).mono (by omega),hb9⟩
   | guard_hyp z_3
     ·simp only [AY,Nat.reduceAdd]
      refine ⟨fun D u hD hd hu=>?_,fun D u hD hd hu=>?_,fun D u hD hd hu=>?_,trivial⟩
      ·refine BQ 28 118 rfl underlying28 (by kernel_rfl) ?_
       exact ⟨⟨_,rfl⟩,hu.build hD lb5⟩
      ·have d7:=hd { on:=7,ground:=Ground.data } (by simp) rfl rfl
       have hrow:=hu.2.2.2.2.1 d7 hD
       rw [e7] at hrow
       refine Cr _ _ 28 rfl u4.1.size 118 2 16 0 (σ #[O U 0,O U 0]) (ψ (some ⟨g7,0,none⟩) 0 0) [] C x.cells.length cc (Af ceV x.cells) underlying28 Dp rfl (by omega) rfl hrow rfl (Ak Au) (NW.out u hu.1.1) (DW x.cells) (by unfold maxLen;omega) (by omega) hu.2.1.size ?_
       intro v' w' hown hg hb2
       have hr9:Bv w' u4.1.size v' x.cells:=by have h:=hown;simp only [Nat.zero_add,List.nil_append] at h;exact h
       obtain ⟨A6,c6,rfl,_,_⟩:=hr9.reads Au
       exact ⟨⟨_,_,rfl⟩,hu.append d7 hD lb5 hLlt HKS.out.1.size e7 hr9 (by simpa [Value.ownBlock] using hg)⟩
      ·have d10:=hd { on:=10,ground:=Ground.phase } (by simp) rfl rfl
       exact DU (off:=0) (hu.2.2.1 hD) (by simp) rfl rfl rfl (by kernel_rfl) (by simp [Value.oneCell']) (fun w' hc hg=>⟨rfl,hu.store d10 lb5 (by omega) hLne hg (by simp only [e10];simpa using hc)⟩)
     ·intro D uf hD hu
      have hf:=hu.1
      have hgf:=hu.2.1
      have hcs:=hu.2.2.2.1 (hD 13 (by simp) rfl)
      have hrc:=hu.2.2.2.2.2.1 (hD 10 (by simp) rfl)
      simp only [e10] at hcs hrc
      clear hu hD HKS hγ e7 e10 e13
      have hg15:=Ar (BV bu4 (some b')) hgf
      have hrs:=AK hr4 hgf (fun hm=>by have:=(hra _ hm).1;omega)
      have hlts:∀ y ∈ Ae (ψ A9 sT.length c9),y < u4.1.size:=fun y hy=>by have:=(hra y hy).2;omega
      have hsep:=Da hlts (fun y hy=>(Ax hrc y hy).1)
      have hvf:=HU.out.slotPut0 (s:=⟨scn,sT,smc,x.cells⟩) hrs hrc (by omega) (by omega) hsep hsl hg15 (by simpa using hcs)
      clear hcs hrc hrs hsep hlts hg15 hgf hsl hsl5 bu4 hr4
      obtain ⟨X0,Y0,X1,Y1,X2,Y2,X3,Y3,-⟩:=hf.rd
      have HV:=hid hvf
      have KK:=hid hf
      clear hvf hf HU
      go_wp2_with fail
      obtain ⟨w9,e9,⟨d0,d1,d2,d3,d4,d5⟩,hb9,hg9⟩:=AN (w:=w) (x0:=O U x.key) (x1:=ψ A' x.counts.length c') (x2:=ψ B' x.trusts.length d') (x3:=ψ C' x.cells.length e') (x4:=ψ (some ⟨b',0,none⟩) 2 2) (x5:=O U x.count) (KK.out.at_ (p:=w.1.size + 1) (t:=31) (cs:=#[O U 0,ψ none 0 0,ψ none 0 0,ψ none 0 0,ψ none 0 0,O U 0]) (by simp)) KK.out.1 (by omega)
      rw [e9]
      exact bodyPost_ret (v:=.tuple #[σ #[O U x.key,ψ A' x.counts.length c',ψ B' x.trusts.length d',ψ C' x.cells.length e',ψ (some ⟨b',0,none⟩) 2 2,O U x.count],O U 0]) (by simp [results,results88,go_sem,d0,d1,d2,d3,d4,d5]) rfl ⟨_,rfl,(HV.out.out hg9 (by omega)).mono (by omega),hb9⟩
   | guard_hyp z_4
     ·simp only [AY,Nat.reduceAdd]
      refine ⟨fun D u hD hd hu=>?_,fun D u hD hd hu=>?_,fun D u hD hd hu=>?_,trivial⟩
      ·refine BQ 28 118 rfl underlying28 (by kernel_rfl) ?_
       exact ⟨⟨_,rfl⟩,hu.build hD lb5⟩
      ·have d7:=hd { on:=7,ground:=Ground.data } (by simp) rfl rfl
       have hrow:=hu.2.2.2.2.1 d7 hD
       rw [e7] at hrow
       refine Cr _ _ 28 rfl u4.1.size 118 2 16 0 (σ #[O U 0,O U 0]) (ψ (some ⟨g7,0,none⟩) 0 0) [] C x.cells.length cc (Af ceV x.cells) underlying28 Dp rfl (by omega) rfl hrow rfl (Ak Au) (NW.out u hu.1.1) (DW x.cells) (by unfold maxLen;omega) (by omega) hu.2.1.size ?_
       intro v' w' hown hg hb2
       have hr9:Bv w' u4.1.size v' x.cells:=by have h:=hown;simp only [Nat.zero_add,List.nil_append] at h;exact h
       obtain ⟨A6,c6,rfl,_,_⟩:=hr9.reads Au
       exact ⟨⟨_,_,rfl⟩,hu.append d7 hD lb5 hLlt HKS.out.1.size e7 hr9 (by simpa [Value.ownBlock] using hg)⟩
      ·have d10:=hd { on:=10,ground:=Ground.phase } (by simp) rfl rfl
       exact DU (off:=4) (hu.2.2.1 hD) (by simp) rfl rfl rfl (by kernel_rfl) (by simp [Value.oneCell']) (fun w' hc hg=>⟨rfl,hu.store d10 lb5 (by omega) hLne hg (by simp only [e10];simpa using hc)⟩)
     ·intro D uf hD hu
      have hf:=hu.1
      have hgf:=hu.2.1
      have hcs:=hu.2.2.2.1 (hD 13 (by simp) rfl)
      have hrc:=hu.2.2.2.2.2.1 (hD 10 (by simp) rfl)
      simp only [e10] at hcs hrc
      clear hu hD HKS hγ e7 e10 e13
      have hg15:=Ar (BV bu4 (some b')) hgf
      have hrs:=AK hr4 hgf (fun hm=>by have:=(hra _ hm).1;omega)
      have hlts:∀ y ∈ Ae (ψ A9 sT.length c9),y < u4.1.size:=fun y hy=>by have:=(hra y hy).2;omega
      have hsep:=Da hlts (fun y hy=>(Ax hrc y hy).1)
      have hvf:=HU.out.slotPut1 (s:=⟨scn,sT,smc,x.cells⟩) hrs hrc (by omega) (by omega) hsep hsl hg15 (by simpa using hcs)
      clear hcs hrc hrs hsep hlts hg15 hgf hsl hsl5 bu4 hr4
      obtain ⟨X0,Y0,X1,Y1,X2,Y2,X3,Y3,-⟩:=hf.rd
      have HV:=hid hvf
      have KK:=hid hf
      clear hvf hf HU
      go_wp2_with fail
      obtain ⟨w9,e9,⟨d0,d1,d2,d3,d4,d5⟩,hb9,hg9⟩:=AN (w:=w) (x0:=O U x.key) (x1:=ψ A' x.counts.length c') (x2:=ψ B' x.trusts.length d') (x3:=ψ C' x.cells.length e') (x4:=ψ (some ⟨b',0,none⟩) 2 2) (x5:=O U x.count) (KK.out.at_ (p:=w.1.size + 1) (t:=31) (cs:=#[O U 0,ψ none 0 0,ψ none 0 0,ψ none 0 0,ψ none 0 0,O U 0]) (by simp)) KK.out.1 (by omega)
      rw [e9]
      exact bodyPost_ret (v:=.tuple #[σ #[O U x.key,ψ A' x.counts.length c',ψ B' x.trusts.length d',ψ C' x.cells.length e',ψ (some ⟨b',0,none⟩) 2 2,O U x.count],O U 0]) (by simp [results,results88,go_sem,d0,d1,d2,d3,d4,d5]) rfl ⟨_,rfl,(HV.out.out hg9 (by omega)).mono (by omega),hb9⟩
   | guard_hyp z_5
     ·simp only [AY,Nat.reduceAdd]
      refine ⟨fun D u hD hd hu=>?_,fun D u hD hd hu=>?_,fun D u hD hd hu=>?_,trivial⟩
      ·refine BQ 28 118 rfl underlying28 (by kernel_rfl) ?_
       exact ⟨⟨_,rfl⟩,hu.build hD lb5⟩
      ·have d7:=hd { on:=7,ground:=Ground.data } (by simp) rfl rfl
       have hrow:=hu.2.2.2.2.1 d7 hD
       rw [e7] at hrow
       refine Cr _ _ 28 rfl u4.1.size 118 2 16 0 (σ #[O U 0,O U 0]) (ψ (some ⟨g7,0,none⟩) 0 0) [] C x.cells.length cc (Af ceV x.cells) underlying28 Dp rfl (by omega) rfl hrow rfl (Ak Au) (NW.out u hu.1.1) (DW x.cells) (by unfold maxLen;omega) (by omega) hu.2.1.size ?_
       intro v' w' hown hg hb2
       have hr9:Bv w' u4.1.size v' x.cells:=by have h:=hown;simp only [Nat.zero_add,List.nil_append] at h;exact h
       obtain ⟨A6,c6,rfl,_,_⟩:=hr9.reads Au
       exact ⟨⟨_,_,rfl⟩,hu.append d7 hD lb5 hLlt HKS.out.1.size e7 hr9 (by simpa [Value.ownBlock] using hg)⟩
      ·have d10:=hd { on:=10,ground:=Ground.phase } (by simp) rfl rfl
       exact DU (off:=0) (hu.2.2.1 hD) (by simp) rfl rfl rfl (by kernel_rfl) (by simp [Value.oneCell']) (fun w' hc hg=>⟨rfl,hu.store d10 lb5 (by omega) hLne hg (by simp only [e10];simpa using hc)⟩)
     ·intro D uf hD hu
      have hf:=hu.1
      have hgf:=hu.2.1
      have hcs:=hu.2.2.2.1 (hD 13 (by simp) rfl)
      have hrc:=hu.2.2.2.2.2.1 (hD 10 (by simp) rfl)
      simp only [e10] at hcs hrc
      clear hu hD HKS hγ e7 e10 e13
      have hg15:=Ar (BV bu4 (some b')) hgf
      have hrs:=AK hr4 hgf (fun hm=>by have:=(hra _ hm).1;omega)
      have hlts:∀ y ∈ Ae (ψ A9 sT.length c9),y < u4.1.size:=fun y hy=>by have:=(hra y hy).2;omega
      have hsep:=Da hlts (fun y hy=>(Ax hrc y hy).1)
      obtain ⟨X0,Y0,X1,Y1,X2,Y2,X3,Y3,-⟩:=hf.rd
      go_upto_region 13 with fail
      have hg8:=Ai (Aj uf (some u1.1.size)) 5 (O U n1)
      have hk8:Kept w [(u3.1.size,89,#[O U scn,ψ A9 sT.length c9,O U smc]),(u1.1.size,31,#[O U x.key,ψ A' x.counts.length c',ψ B' x.trusts.length d',ψ C' x.cells.length e',ψ (some ⟨b',0,none⟩) 2 2,O U n1]),(w.1.size + 1,31,#[O U 0,ψ none 0 0,ψ none 0 0,ψ none 0 0,ψ none 0 0,O U 0]),(w.1.size,31,#[O U x.key,ψ A x.counts.length cap,ψ B x.trusts.length tc,ψ C x.cells.length cc,ψ (some ⟨b,off,none⟩) 2 sc,O U x.count])] _:=hf.put (k:=1) rfl (by unfold Apart;simp;omega) hg8 ((hf.at_ (p:=u1.1.size) (t:=31) (cs:=#[O U x.key,ψ A' x.counts.length c',ψ B' x.trusts.length d',ψ C' x.cells.length e',ψ (some ⟨b',0,none⟩) 2 2,O U x.count]) (by simp)).set_ 5 _)
      have hv8:=(HU.out.slotPut0 (s:=⟨scn,sT,smc,x.cells⟩) (AK hrs hg8 (fun hm=>by have:=(hra _ hm).1;omega)) (AK hrc hg8 (fun hm=>by have:=(Ax hrc _ hm).1;omega)) (by omega) (by omega) hsep hsl (Jd hg15 hg8 (lr _)) (show Aa _ _ _ #[O U scn,ψ A9 sT.length c9,O U smc,ψ C9 x.cells.length d9,O U x.s1.count,ψ A1 x.s1.trusts.length c1,O U x.s1.mac,ψ C1 x.s1.cells.length d1] from (show Aa _ _ _ _ from hcs).grown hg8 (by intro e;injection e;omega))).cnt n1
      clear hcs hrc hrs hsep hlts hg15 hgf hsl hsl5 hg8 bu4 hr4
      clear hf
      clear X0 Y0 X1 Y1 X2 Y2 X3 Y3
      generalize World.setCell uf _ _ = u8 at hk8 hv8 |-
      obtain ⟨X0,Y0,X1,Y1,X2,Y2,X3,Y3,-⟩:=hk8.rd
      have HV:=hid hv8
      have KK:=hid hk8
      clear hv8 hk8 HU
      go_wp2_with fail
      obtain ⟨w9,e9,⟨d0,d1,d2,d3,d4,d5⟩,hb9,hg9⟩:=AN (w:=w) (x0:=O U x.key) (x1:=ψ A' x.counts.length c') (x2:=ψ B' x.trusts.length d') (x3:=ψ C' x.cells.length e') (x4:=ψ (some ⟨b',0,none⟩) 2 2) (x5:=O U n1) (KK.out.at_ (p:=w.1.size + 1) (t:=31) (cs:=#[O U 0,ψ none 0 0,ψ none 0 0,ψ none 0 0,ψ none 0 0,O U 0]) (by simp)) KK.out.1 (by omega)
      rw [e9]
      exact bodyPost_ret (v:=.tuple #[σ #[O U x.key,ψ A' x.counts.length c',ψ B' x.trusts.length d',ψ C' x.cells.length e',ψ (some ⟨b',0,none⟩) 2 2,O U n1],O U 0]) (by simp [results,results88,go_sem,d0,d1,d2,d3,d4,d5]) rfl ⟨_,rfl,(HV.out.out hg9 (by omega)).mono (by omega),hb9⟩
   | · simp only [AY,Nat.reduceAdd]
       refine ⟨fun D u hD hd hu=>?_,fun D u hD hd hu=>?_,fun D u hD hd hu=>?_,trivial⟩
       ·refine BQ 28 118 rfl underlying28 (by kernel_rfl) ?_
        exact ⟨⟨_,rfl⟩,hu.build hD lb5⟩
       ·have d7:=hd { on:=7,ground:=Ground.data } (by simp) rfl rfl
        have hrow:=hu.2.2.2.2.1 d7 hD
        rw [e7] at hrow
        refine Cr _ _ 28 rfl u4.1.size 118 2 16 0 (σ #[O U 0,O U 0]) (ψ (some ⟨g7,0,none⟩) 0 0) [] C x.cells.length cc (Af ceV x.cells) underlying28 Dp rfl (by omega) rfl hrow rfl (Ak Au) (NW.out u hu.1.1) (DW x.cells) (by unfold maxLen;omega) (by omega) hu.2.1.size ?_
        intro v' w' hown hg hb2
        have hr9:Bv w' u4.1.size v' x.cells:=by have h:=hown;simp only [Nat.zero_add,List.nil_append] at h;exact h
        obtain ⟨A6,c6,rfl,_,_⟩:=hr9.reads Au
        exact ⟨⟨_,_,rfl⟩,hu.append d7 hD lb5 hLlt HKS.out.1.size e7 hr9 (by simpa [Value.ownBlock] using hg)⟩
       ·have d10:=hd { on:=10,ground:=Ground.phase } (by simp) rfl rfl
        exact DU (off:=4) (hu.2.2.1 hD) (by simp) rfl rfl rfl (by kernel_rfl) (by simp [Value.oneCell']) (fun w' hc hg=>⟨rfl,hu.store d10 lb5 (by omega) hLne hg (by simp only [e10];simpa using hc)⟩)
     ·intro D uf hD hu
      have hf:=hu.1
      have hgf:=hu.2.1
      have hcs:=hu.2.2.2.1 (hD 13 (by simp) rfl)
      have hrc:=hu.2.2.2.2.2.1 (hD 10 (by simp) rfl)
      simp only [e10] at hcs hrc
      clear hu hD HKS hγ e7 e10 e13
      have hg15:=Ar (BV bu4 (some b')) hgf
      have hrs:=AK hr4 hgf (fun hm=>by have:=(hra _ hm).1;omega)
      have hlts:∀ y ∈ Ae (ψ A9 sT.length c9),y < u4.1.size:=fun y hy=>by have:=(hra y hy).2;omega
      have hsep:=Da hlts (fun y hy=>(Ax hrc y hy).1)
      obtain ⟨X0,Y0,X1,Y1,X2,Y2,X3,Y3,-⟩:=hf.rd
      go_upto_region 13 with fail
      have hg8:=Ai (Aj uf (some u1.1.size)) 5 (O U n1)
      have hk8:Kept w [(u3.1.size,89,#[O U scn,ψ A9 sT.length c9,O U smc]),(u1.1.size,31,#[O U x.key,ψ A' x.counts.length c',ψ B' x.trusts.length d',ψ C' x.cells.length e',ψ (some ⟨b',0,none⟩) 2 2,O U n1]),(w.1.size + 1,31,#[O U 0,ψ none 0 0,ψ none 0 0,ψ none 0 0,ψ none 0 0,O U 0]),(w.1.size,31,#[O U x.key,ψ A x.counts.length cap,ψ B x.trusts.length tc,ψ C x.cells.length cc,ψ (some ⟨b,off,none⟩) 2 sc,O U x.count])] _:=hf.put (k:=1) rfl (by unfold Apart;simp;omega) hg8 ((hf.at_ (p:=u1.1.size) (t:=31) (cs:=#[O U x.key,ψ A' x.counts.length c',ψ B' x.trusts.length d',ψ C' x.cells.length e',ψ (some ⟨b',0,none⟩) 2 2,O U x.count]) (by simp)).set_ 5 _)
      have hv8:=(HU.out.slotPut1 (s:=⟨scn,sT,smc,x.cells⟩) (AK hrs hg8 (fun hm=>by have:=(hra _ hm).1;omega)) (AK hrc hg8 (fun hm=>by have:=(Ax hrc _ hm).1;omega)) (by omega) (by omega) hsep hsl (Jd hg15 hg8 (lr _)) (show Aa _ _ _ #[O U x.s0.count,ψ A0 x.s0.trusts.length c0,O U x.s0.mac,ψ C0 x.s0.cells.length d0,O U scn,ψ A9 sT.length c9,O U smc,ψ C9 x.cells.length d9] from (show Aa _ _ _ _ from hcs).grown hg8 (by intro e;injection e;omega))).cnt n1
      clear hcs hrc hrs hsep hlts hg15 hgf hsl hsl5 hg8 bu4 hr4
      clear hf
      clear X0 Y0 X1 Y1 X2 Y2 X3 Y3
      generalize World.setCell uf _ _ = u8 at hk8 hv8 |-
      obtain ⟨X0,Y0,X1,Y1,X2,Y2,X3,Y3,-⟩:=hk8.rd
      have HV:=hid hv8
      have KK:=hid hk8
      clear hv8 hk8 HU
      go_wp2_with fail
      obtain ⟨w9,e9,⟨d0,d1,d2,d3,d4,d5⟩,hb9,hg9⟩:=AN (w:=w) (x0:=O U x.key) (x1:=ψ A' x.counts.length c') (x2:=ψ B' x.trusts.length d') (x3:=ψ C' x.cells.length e') (x4:=ψ (some ⟨b',0,none⟩) 2 2) (x5:=O U n1) (KK.out.at_ (p:=w.1.size + 1) (t:=31) (cs:=#[O U 0,ψ none 0 0,ψ none 0 0,ψ none 0 0,ψ none 0 0,O U 0]) (by simp)) KK.out.1 (by omega)
      rw [e9]
      exact bodyPost_ret (v:=.tuple #[σ #[O U x.key,ψ A' x.counts.length c',ψ B' x.trusts.length d',ψ C' x.cells.length e',ψ (some ⟨b',0,none⟩) 2 2,O U n1],O U 0]) (by simp [results,results88,go_sem,d0,d1,d2,d3,d4,d5]) rfl ⟨_,rfl,(HV.out.out hg9 (by omega)).mono (by omega),hb9⟩
theorem OI:type_of% BD.1:=BD.1
theorem Ot:type_of% BD.2.1:=BD.2.1
theorem OQ:type_of% BD.2.2.1:=BD.2.2.1
theorem On:type_of% BD.2.2.2.1:=BD.2.2.2.1
theorem Oz:type_of% BD.2.2.2.2.1:=BD.2.2.2.2.1
theorem OG:type_of% BD.2.2.2.2.2:=BD.2.2.2.2.2
theorem Mh (x:VolN) (v:Value) (w:World) (hx:x.Short) (hv:VolR w w.1.size x v) (hI:Cx x.trusts) (hc0:0 <= x.count) (stage:Int):Calls prog 88 #[v,O U stage] w (Ci w (Ah x stage)):=by
 unfold Ah
 by_cases hs:0 <= stage /\ stage <= 3
 ·rw [if_neg (not_not_intro hs)]
  by_cases hc:10000 <= x.count
  ·rw [if_pos hc];exact Me x v w hx hv stage hs hc
  ·rw [if_neg hc]
   by_cases h0:stage = 0
   ·rw [if_pos h0];subst h0;exact MT x v w hx hv hc
   ·rw [if_neg h0]
    unfold Ep
    have h3:stage = 1 \/ stage = 2 \/ stage = 3:=by omega
    rcases Int.emod_two_eq (x.count + 1) with hp | hp
    ·rw [if_pos hp]
     rcases h3 with rfl | rfl | rfl
     ·exact OI x v w hx hv hI hc0 hc hp
     ·exact OQ x v w hx hv hI hc0 hc hp
     ·exact Oz x v w hx hv hI hc0 hc hp
    ·rw [if_neg (by omega)]
     rcases h3 with rfl | rfl | rfl
     ·exact Ot x v w hx hv hI hc0 hc hp
     ·exact On x v w hx hv hI hc0 hc hp
     ·exact OG x v w hx hv hI hc0 hc hp
 ·rw [if_pos hs];exact OA x v w hx hv stage hs

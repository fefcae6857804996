import Derived.Test.YteoijmejhdocdaaGreatDoorV31
namespace Go.Proofs.YteoijmejhdocdaaGreatDoor.Mx
open Go.ChangeShapes Go.WideShapes Go.ChangeAt Go.RowKit
set_option linter.unusedVariables false
open Go.Lib (hid)
open Go.Proofs.Tryz
set_option maxRecDepth 20000
set_option maxHeartbeats 64000000
open Value renaming int → O, slice → ψ, bool → φ, agg → σ
open IntKind renaming i64 → U
open Ending renaming returned → τ
def BN (b:World) (r:VolN × Int × Int) (e:Ending) (w':World):Prop:=∃ cs,e = τ (.tuple #[σ cs,σ #[O U r.2.1,O U r.2.2]]) /\ VolO w' b.1.size r.1 (σ cs) /\ Below b.1.size b w'
theorem Eq {w w1:World} {r q:Nat} {t t2:TypeId} {x0 x1 x2 x3 x4 x5 y0 y1 y2 y3 y4 y5 a0 a1 z0 z1:Value} (hk:Aa w1 r t #[y0,y1,y2,y3,y4,y5]) (hq:Aa w1 q t2 #[z0,z1]) (hne:r ≠ q) (hb:Below w.1.size w w1) (hr:w.1.size <= r) (hrq:w.1.size <= q):
    ∃ w4,(((((((w1.setCell ⟨r,0,none⟩ x0).setCell ⟨r,1,none⟩ x1).setCell ⟨r,2,none⟩ x2).setCell ⟨r,3,none⟩ x3).setCell ⟨r,4,none⟩ x4).setCell ⟨r,5,none⟩ x5).setCell ⟨q,0,none⟩ a0).setCell ⟨q,1,none⟩ a1 = w4 /\ (w4.cell? ⟨r,0,none⟩ = some x0 /\ w4.cell? ⟨r,1,none⟩ = some x1 /\ w4.cell? ⟨r,2,none⟩ = some x2 /\ w4.cell? ⟨r,3,none⟩ = some x3 /\ w4.cell? ⟨r,4,none⟩ = some x4 /\ w4.cell? ⟨r,5,none⟩ = some x5) /\
      (w4.cell? ⟨q,0,none⟩ = some a0 /\ w4.cell? ⟨q,1,none⟩ = some a1) /\ Below w.1.size w w4 /\ ∀ (base:Nat) (x:VolN) (v:Value),r < base -> q < base -> VolO w1 base x v -> VolO w4 base x v:=by
 obtain ⟨w3,e3,⟨d0,d1,d2,d3,d4,d5⟩,hb3,hg3⟩:=AN (w:=w) (x0:=x0) (x1:=x1) (x2:=x2) (x3:=x3) (x4:=x4) (x5:=x5) hk hb hr
 rw [e3]
 have hq3:=hq.grown hg3 (by intro e;injection e with e;exact hne e.symm)
 have hc:=(hq3.set_ 0 a0).set_ 1 a1
 have hg4:=Ai (Ai (Aj w3 (some q)) 0 a0) 1 a1
 have k:=fun (o:Nat) {z:Value} (h:w3.cell? ⟨r,o,none⟩ = some z)=>hg4.cell h (by intro e;injection e with e;exact hne e)
 exact ⟨_,rfl,⟨k 0 d0,k 1 d1,k 2 d2,k 3 d3,k 4 d4,k 5 d5⟩,⟨hc.cell 0,hc.cell 1⟩,bgb hb3 hg4 hb3.size hrq,fun base x v h1 h2 hv=>(hv.out hg3 h1).out hg4 h2⟩
noncomputable def Eg (x:VolN) (a c0 c1:Int):VolN × Int × Int:=
 open Classical in if 0 <= Am x.key x.counts a /\ AO c0 c1 then ({ x with cells:=x.cells.set a.toNat (c0,c1) },0,0) else (x,1,0)
theorem Ev:(∀ (x:VolN) (v:Value) (w:World) (hx:x.Short) (hv:VolR w w.1.size x v) (a c0 c1:Int) (hr:¬ 0 <= Am x.key x.counts a),Calls prog 171 #[v,O U a,σ #[O U c0,O U c1]] w (BN w (x,1,0))) /\
 (∀ (x:VolN) (v:Value) (w:World) (hx:x.Short) (hv:VolR w w.1.size x v) (a c0 c1:Int) (hr:0 <= Am x.key x.counts a) (hc:¬ AO c0 c1),Calls prog 171 #[v,O U a,σ #[O U c0,O U c1]] w (BN w (x,1,0))) /\
 (∀ (x:VolN) (v:Value) (w:World) (hx:x.Short) (hv:VolR w w.1.size x v) (a c0 c1:Int) (hfit:x.Fit) (hr:0 <= Am x.key x.counts a) (hc:AO c0 c1),Calls prog 171 #[v,O U a,σ #[O U c0,O U c1]] w (BN w ({ x with cells:=x.cells.set a.toNat (c0,c1) },0,0))):=by
 refine ⟨fun x v w hx hv a c0 c1 hr=>(fun (z_1:True)=>?_) trivial,fun x v w hx hv a c0 c1 hr hc=>(fun (z_2:True)=>?_) trivial,fun x v w hx hv a c0 c1 hfit hr hc=>(fun (z_3:True)=>?_) trivial⟩
 all_goals
  have CO:=hid (fun (u:World) (hb:Below w.1.size w u)=>Fo x v u hx (hv.grow hb))
  obtain ⟨A,cap,B,tc,C,cc,b,off,sc,rfl,hA,hB,hC,hbb,h0,h1,hcap⟩:=hv
  have K0:=hid (show Kept w [(w.1.size + 1 + 1 + 1,52,#[O U 0,O U 0]),(w.1.size + 1 + 1,31,#[O U 0,ψ none 0 0,ψ none 0 0,ψ none 0 0,ψ none 0 0,O U 0]),(w.1.size + 1,118,#[O U c0,O U c1]),(w.1.size,31,#[O U x.key,ψ A x.counts.length cap,ψ B x.trusts.length tc,ψ C x.cells.length cc,ψ (some ⟨b,off,none⟩) 2 sc,O U x.count])] _ from (((((Kept.refl w).put1 _ _ #[O U x.key,ψ A x.counts.length cap,ψ B x.trusts.length tc,ψ C x.cells.length cc,ψ (some ⟨b,off,none⟩) 2 sc,O U x.count] rfl).put1 _ _ #[O U c0,O U c1] (by simp)).put1 _ _ #[O U 0,ψ none 0 0,ψ none 0 0,ψ none 0 0,ψ none 0 0,O U 0] (by simp)).put1 _ _ #[O U 0,O U 0] (by simp)))
  first
   | guard_hyp z_1
     have RG:=hid (fun (u:World) (hb:Below w.1.size w u)=>Be x.key a A x.counts cap u (by have:=hx.1;unfold maxLen;omega) hcap ((hA.below hb (lr _)).more hb.size))
     have hd:decide (Am x.key x.counts a < 0) = true:=decide_eq_true (by omega)
     generalize Am x.key x.counts a = r at RG hd
     clear hA hB hC h0 h1 hr
   | guard_hyp z_2
     have RG:=hid (fun (u:World) (hb:Below w.1.size w u)=>Be x.key a A x.counts cap u (by have:=hx.1;unfold maxLen;omega) hcap ((hA.below hb (lr _)).more hb.size))
     have hd:decide (Am x.key x.counts a < 0) = false:=decide_eq_false (by omega)
     have CK:=hid (fun u=>AQ c0 c1 u)
     rw [decide_eq_false hc] at CK
     generalize Am x.key x.counts a = r at RG hd
     clear hA hB hC h0 h1 hr hc
   | obtain ⟨i,e,hi,hp,ha0,hu0,hu1⟩:=Et hr
     obtain ⟨j,rfl⟩:∃ j:Nat,a = j:=⟨a.toNat,by omega⟩
     have hup:=Cy hp.2.2.1 (i:=i + 1) (j:=x.counts.length) (by omega) (lr _)
     have hj:j < x.cells.length:=by have:=hfit.2;omega
     have hlt2:(j:Int) < x.cells.length:=by omega
     have hj0:(0:Int) <= j:=by omega
     simp only [Int.toNat_natCast]
     clear e hi hp ha0 hu0 hu1 hup hfit
     have RG:=hid (fun (u:World) (hb:Below w.1.size w u)=>Be x.key j A x.counts cap u (by have:=hx.1;unfold maxLen;omega) hcap ((hA.below hb (lr _)).more hb.size))
     have hd:decide (Am x.key x.counts j < 0) = false:=decide_eq_false (by omega)
     have CK:=hid (fun u=>AQ c0 c1 u)
     rw [decide_eq_true hc] at CK
     generalize Am x.key x.counts j = r at RG hd
     clear hA hB hC h0 h1 hr hc
  have hxc:=hx.2.2.1
  go_enter func171,ntmps171
  go_wp2_with fail
  refine (CO.out _ K0.out.1).mono ?_;rintro e u1 ⟨vv,rfl,hv,hb1⟩
  have hk1:=K0.out.below hb1
  obtain ⟨A',c',B',d',C',e',b',o',s',rfl,-⟩:=hv.reads
  have hv1:=hv.mono (show w.1.size + 1 + 1 + 1 + 1 <= _ by simp)
  have hbl:=hv.slotsGet.2.2.2.1
  have lo0:w.1.size + 1 + 1 + 1 < u1.1.size:=hk1.lt (x:=(w.1.size + 1 + 1 + 1,52,#[O U 0,O U 0])) (by simp)
  have lo1:w.1.size + 1 + 1 < u1.1.size:=hk1.lt (x:=(w.1.size + 1 + 1,31,#[O U 0,ψ none 0 0,ψ none 0 0,ψ none 0 0,ψ none 0 0,O U 0])) (by simp)
  have lo2:w.1.size + 1 < u1.1.size:=hk1.lt (x:=(w.1.size + 1,118,#[O U c0,O U c1])) (by simp)
  have lo3:w.1.size < u1.1.size:=hk1.lt (x:=(w.1.size,31,#[O U x.key,ψ A x.counts.length cap,ψ B x.trusts.length tc,ψ C x.cells.length cc,ψ (some ⟨b,off,none⟩) 2 sc,O U x.count])) (by simp)
  have hk2:=hk1.put1 u1.1.size 31 #[O U x.key,ψ A' x.counts.length c',ψ B' x.trusts.length d',ψ C' x.cells.length e',ψ (some ⟨b',o',none⟩) 2 s',O U x.count] rfl
  have hv2:=hv1.below ((Below.refl _ _).alloc (lr _) (.cells #[O U x.key,ψ A' x.counts.length c',ψ B' x.trusts.length d',ψ C' x.cells.length e',ψ (some ⟨b',o',none⟩) 2 s',O U x.count] 31))
  first
   | guard_hyp z_3
     have HBL:=hid (show ∀ g,C' = some ⟨g,0,none⟩ -> g < u1.1.size from fun g hg=>by obtain ⟨g',e',-,hlt,-⟩:=hv.cellsGet (by omega);rw [hg] at e';injection e' with e';injection e' with e';omega)
   | skip
  clear hb1 hk1 hv hv1 CO
  go_upto_region 2 with fail
  generalize World.alloc u1 _ = u2 at hk2 hv2 |-
  obtain ⟨X0,Y0,X1,Y1,X2,Y2,X3,Y3,X4,Y4,-⟩:=hk2.rd
  have HV:=hid hv2
  clear hv2
  have KK:=hid hk2
  go_wp2_with fail
  refine (RG.out _ KK.out.1).mono ?_;rintro e u3 ⟨rfl,b3⟩
  have hk3:=KK.out.below b3
  have hv3:=HV.out.below b3
  have lu3:u1.1.size < u3.1.size:=hk3.lt (x:=(u1.1.size,31,#[O U x.key,ψ A' x.counts.length c',ψ B' x.trusts.length d',ψ C' x.cells.length e',ψ (some ⟨b',o',none⟩) 2 s',O U x.count])) (by simp)
  clear b3 KK HV RG hk2 X0 Y0 X1 Y1 X2 Y2 X3 Y3 X4 Y4
  obtain ⟨X0,Y0,X1,Y1,X2,Y2,X3,Y3,X4,Y4,-⟩:=hk3.rd
  have HV:=hid hv3
  have KK:=hid hk3
  clear hv3 hk3
  go_wp2_with fail
  first
   | guard_hyp z_1
     obtain ⟨w9,e9,⟨d0,d1,d2,d3,d4,d5⟩,⟨f0,f1⟩,hb9,hv9⟩:=Eq (w:=w) (x0:=O U x.key) (x1:=ψ A' x.counts.length c') (x2:=ψ B' x.trusts.length d') (x3:=ψ C' x.cells.length e') (x4:=ψ (some ⟨b',o',none⟩) 2 s') (x5:=O U x.count) (a0:=O U 1) (a1:=O U 0) (KK.out.at_ (p:=w.1.size + 1 + 1) (t:=31) (cs:=#[O U 0,ψ none 0 0,ψ none 0 0,ψ none 0 0,ψ none 0 0,O U 0]) (by simp)) (KK.out.at_ (p:=w.1.size + 1 + 1 + 1) (t:=52) (cs:=#[O U 0,O U 0]) (by simp)) (by omega) KK.out.1 (by omega) (by omega)
   | guard_hyp z_2
     refine (CK.out _).mono ?_;rintro e u4 ⟨rfl,b4⟩
     have hk4:=KK.out.below b4
     have hv4:=HV.out.below b4
     have hz4:=b4.size
     clear b4 KK HV X0 Y0 X1 Y1 X2 Y2 X3 Y3 X4 Y4
     obtain ⟨X0,Y0,X1,Y1,X2,Y2,X3,Y3,X4,Y4,-⟩:=hk4.rd
     have HV:=hid hv4
     have KK:=hid hk4
     clear hv4 hk4
     go_wp2_with fail
     obtain ⟨w9,e9,⟨d0,d1,d2,d3,d4,d5⟩,⟨f0,f1⟩,hb9,hv9⟩:=Eq (w:=w) (x0:=O U x.key) (x1:=ψ A' x.counts.length c') (x2:=ψ B' x.trusts.length d') (x3:=ψ C' x.cells.length e') (x4:=ψ (some ⟨b',o',none⟩) 2 s') (x5:=O U x.count) (a0:=O U 1) (a1:=O U 0) (KK.out.at_ (p:=w.1.size + 1 + 1) (t:=31) (cs:=#[O U 0,ψ none 0 0,ψ none 0 0,ψ none 0 0,ψ none 0 0,O U 0]) (by simp)) (KK.out.at_ (p:=w.1.size + 1 + 1 + 1) (t:=52) (cs:=#[O U 0,O U 0]) (by simp)) (by omega) KK.out.1 (by omega) (by omega)
   | refine (CK.out _).mono ?_;rintro e u4 ⟨rfl,b4⟩
     have hk4:=KK.out.below b4
     have hv4:=HV.out.below b4
     have hz4:=b4.size
     clear b4 KK HV X0 Y0 X1 Y1 X2 Y2 X3 Y3 X4 Y4
     obtain ⟨X0,Y0,X1,Y1,X2,Y2,X3,Y3,X4,Y4,-⟩:=hk4.rd
     have HV:=hid hv4
     have KK:=hid hk4
     clear hv4 hk4
     obtain ⟨gc,rfl,hg0,hgu,hrow,hset⟩:=HV.out.cellsGet (by omega)
     have hfz:=Dw hrow
     obtain ⟨p0,p1⟩:=hrow.here hj
     have HR:=hid hrow
     have HS:=hid hset
     clear hrow hset
     go_upto_region 5 with fail
     have hr6:=HR.out.set_ hj (c0,c1)
     have hg6:=Ai (Ai (Aj u4 (some gc)) (j * 2) (O U c0)) (j * 2 + 1) (O U c1)
     have hne:gc ≠ u1.1.size:=by have:=HBL.out gc rfl;omega
     have hk6:=KK.out.grown hg6 (by omega) (by intro y hy;simp at hy;rcases hy with rfl | rfl | rfl | rfl | rfl <;> simp <;> omega)
     have hv6:=HS.out _ (x.cells.set j (c0,c1)) (by simp) hg6 (by rw [List.length_set];exact hr6)
     generalize World.setCell _ _ _ = u6 at hk6 hv6 |-
     clear hr6 hg6 HR HS hfz p0 p1 KK HV
     clear X0 Y0 X1 Y1 X2 Y2 X3 Y3 X4 Y4
     obtain ⟨X0,Y0,X1,Y1,X2,Y2,X3,Y3,X4,Y4,-⟩:=hk6.rd
     have HV:=hid hv6
     have KK:=hid hk6
     clear hv6 hk6
     go_wp2_with fail
     obtain ⟨w9,e9,⟨d0,d1,d2,d3,d4,d5⟩,⟨f0,f1⟩,hb9,hv9⟩:=Eq (w:=w) (x0:=O U x.key) (x1:=ψ A' x.counts.length c') (x2:=ψ B' x.trusts.length d') (x3:=ψ (some ⟨gc,0,none⟩) x.cells.length e') (x4:=ψ (some ⟨b',o',none⟩) 2 s') (x5:=O U x.count) (a0:=O U 0) (a1:=O U 0) (KK.out.at_ (p:=w.1.size + 1 + 1) (t:=31) (cs:=#[O U 0,ψ none 0 0,ψ none 0 0,ψ none 0 0,ψ none 0 0,O U 0]) (by simp)) (KK.out.at_ (p:=w.1.size + 1 + 1 + 1) (t:=52) (cs:=#[O U 0,O U 0]) (by simp)) (by omega) KK.out.1 (by omega) (by omega)
  rw [e9]
  first
   | guard_hyp z_3
     exact bodyPost_ret (v:=.tuple #[σ #[O U x.key,ψ A' x.counts.length c',ψ B' x.trusts.length d',ψ (some ⟨gc,0,none⟩) x.cells.length e',ψ (some ⟨b',o',none⟩) 2 s',O U x.count],σ #[O U 0,O U 0]]) (by simp [results,results171,go_sem,d0,d1,d2,d3,d4,d5,f0,f1]) rfl ⟨_,rfl,(hv9 _ _ _ (by omega) (by omega) HV.out).mono (by omega),hb9⟩
   | exact bodyPost_ret (v:=.tuple #[σ #[O U x.key,ψ A' x.counts.length c',ψ B' x.trusts.length d',ψ C' x.cells.length e',ψ (some ⟨b',o',none⟩) 2 s',O U x.count],σ #[O U 1,O U 0]]) (by simp [results,results171,go_sem,d0,d1,d2,d3,d4,d5,f0,f1]) rfl ⟨_,rfl,(hv9 _ _ _ (by omega) (by omega) HV.out).mono (by omega),hb9⟩
theorem PM:type_of% Ev.1:=Ev.1
theorem Oa:type_of% Ev.2.1:=Ev.2.1
theorem Ob:type_of% Ev.2.2:=Ev.2.2
theorem Hv (x:VolN) (v:Value) (w:World) (hx:x.Short) (hv:VolR w w.1.size x v) (hfit:x.Fit) (a c0 c1:Int):Calls prog 171 #[v,O U a,σ #[O U c0,O U c1]] w (BN w (Eg x a c0 c1)):=by
 unfold Eg
 by_cases hr:0 <= Am x.key x.counts a
 ·by_cases hc:AO c0 c1
  ·rw [if_pos ⟨hr,hc⟩];exact Ob x v w hx hv a c0 c1 hfit hr hc
  ·rw [if_neg (fun h=>hc h.2)];exact Oa x v w hx hv a c0 c1 hr hc
 ·rw [if_neg (fun h=>hr h.1)];exact PM x v w hx hv a c0 c1 hr
noncomputable def Eu (x:VolN) (a slot:Int):VolN × Int × Int:=
 if slot = 0 then (if 0 <= a /\ a < x.s0.cells.length then Eg x a (x.s0.cells.getD a.toNat default).1 (x.s0.cells.getD a.toNat default).2 else (x,1,0))
 else if slot = 1 then (if 0 <= a /\ a < x.s1.cells.length then Eg x a (x.s1.cells.getD a.toNat default).1 (x.s1.cells.getD a.toNat default).2 else (x,1,0)) else (x,1,0)
theorem DA:(∀ (x:VolN) (v:Value) (w:World) (hx:x.Short) (hv:VolR w w.1.size x v) (a slot:Int) (hs:slot < 0 \/ 1 < slot),Calls prog 172 #[v,O U a,O U slot] w (BN w (x,1,0))) /\
 (∀ (x:VolN) (v:Value) (w:World) (hx:x.Short) (hv:VolR w w.1.size x v) (hfit:x.Fit) (a:Int) (ha:¬ (0 <= a /\ a < x.s0.cells.length)),Calls prog 172 #[v,O U a,O U 0] w (BN w (x,1,0))) /\
 (∀ (x:VolN) (v:Value) (w:World) (hx:x.Short) (hv:VolR w w.1.size x v) (hfit:x.Fit) (a:Int) (ha:¬ (0 <= a /\ a < x.s1.cells.length)),Calls prog 172 #[v,O U a,O U 1] w (BN w (x,1,0))):=by
 refine ⟨fun x v w hx hv a slot hs=>(fun (z_1:True)=>?_) trivial,fun x v w hx hv hfit a ha=>(fun (z_2:True)=>?_) trivial,fun x v w hx hv hfit a ha=>(fun (z_3:True)=>?_) trivial⟩
 all_goals
  have CO:=hid (fun (u:World) (hb:Below w.1.size w u)=>Fo x v u hx (hv.grow hb))
  obtain ⟨A,cap,B,tc,C,cc,b,off,sc,rfl,hA,hB,hC,hbb,h0,h1,hcap⟩:=hv
  have K0:=hid (show Kept w [(w.1.size + 1 + 1,52,#[O U 0,O U 0]),(w.1.size + 1,31,#[O U 0,ψ none 0 0,ψ none 0 0,ψ none 0 0,ψ none 0 0,O U 0]),(w.1.size,31,#[O U x.key,ψ A x.counts.length cap,ψ B x.trusts.length tc,ψ C x.cells.length cc,ψ (some ⟨b,off,none⟩) 2 sc,O U x.count])] _ from ((((Kept.refl w).put1 _ _ #[O U x.key,ψ A x.counts.length cap,ψ B x.trusts.length tc,ψ C x.cells.length cc,ψ (some ⟨b,off,none⟩) 2 sc,O U x.count] rfl).put1 _ _ #[O U 0,ψ none 0 0,ψ none 0 0,ψ none 0 0,ψ none 0 0,O U 0] (by simp)).put1 _ _ #[O U 0,O U 0] (by simp)))
  first
   | guard_hyp z_1
     clear hA hB hC h0 h1
     have I:=hid (fun u=>DD slot 0 1 u hs)
     clear hs
   | guard_hyp z_2
     obtain ⟨Bs,ts,Ds,ds,y0,y1,y2,y3,hrw⟩:=h0
     have QQ:=hid (show ∀ (u:World),Below w.1.size w u -> (u.cell? ⟨b,off,none⟩ = some (O U x.s0.count) /\ u.cell? ⟨b,off + 1,none⟩ = some (ψ Bs x.s0.trusts.length ts) /\ u.cell? ⟨b,off + 2,none⟩ = some (O U x.s0.mac) /\ u.cell? ⟨b,off + 3,none⟩ = some (ψ Ds x.s0.cells.length ds)) from fun u hu=>⟨(hu.cell (p:=⟨b,_,none⟩) hbb).trans y0,(hu.cell (p:=⟨b,_,none⟩) hbb).trans y1,(hu.cell (p:=⟨b,_,none⟩) hbb).trans y2,(hu.cell (p:=⟨b,_,none⟩) hbb).trans y3⟩)
     clear y0 y1 y2 y3
     have I:=hid (fun u=>Bm 0 0 1 u (by omega) (by omega))
     have hlen:x.s0.cells.length <= 1048576:=hx.2.2.2.2.1
     have hwl:IntKind.i64.wrap ((x.s0.cells.length:Int) - 1) = x.s0.cells.length - 1:=IntWalk.i64_in _ (by omega)
     have J:=hid (fun u=>DD a 0 (x.s0.cells.length - 1) u (by omega))
     clear ha
     clear hrw hA hB hC h1
     have q_:=QQ.out _ K0.out.1
     obtain ⟨q0,q1,q2,q3⟩:=q_
   | obtain ⟨Bs,ts,Ds,ds,y0,y1,y2,y3,hrw⟩:=h1
     have QQ:=hid (show ∀ (u:World),Below w.1.size w u -> (u.cell? ⟨b,off + 4,none⟩ = some (O U x.s1.count) /\ u.cell? ⟨b,off + 4 + 1,none⟩ = some (ψ Bs x.s1.trusts.length ts) /\ u.cell? ⟨b,off + 4 + 2,none⟩ = some (O U x.s1.mac) /\ u.cell? ⟨b,off + 4 + 3,none⟩ = some (ψ Ds x.s1.cells.length ds)) from fun u hu=>⟨(hu.cell (p:=⟨b,_,none⟩) hbb).trans y0,(hu.cell (p:=⟨b,_,none⟩) hbb).trans y1,(hu.cell (p:=⟨b,_,none⟩) hbb).trans y2,(hu.cell (p:=⟨b,_,none⟩) hbb).trans y3⟩)
     clear y0 y1 y2 y3
     have I:=hid (fun u=>Bm 1 0 1 u (by omega) (by omega))
     have hlen:x.s1.cells.length <= 1048576:=hx.2.2.2.2.2.2
     have hwl:IntKind.i64.wrap ((x.s1.cells.length:Int) - 1) = x.s1.cells.length - 1:=IntWalk.i64_in _ (by omega)
     have J:=hid (fun u=>DD a 0 (x.s1.cells.length - 1) u (by omega))
     clear ha
     clear hrw hA hB hC h0
     have q_:=QQ.out _ K0.out.1
     obtain ⟨q0,q1,q2,q3⟩:=q_
  go_enter func172,ntmps172
  go_wp2_with fail
  refine (I.out _).mono ?_;rintro e w' ⟨rfl,rfl⟩
  obtain ⟨X0,Y0,X1,Y1,X2,Y2,-⟩:=K0.out.rd
  go_wp2_with fail
  first
   | guard_hyp z_1
   | refine (J.out _).mono ?_;rintro e w' ⟨rfl,rfl⟩
     go_wp2_with fail
     clear q0 q1 q2 q3
  refine (CO.out _ K0.out.1).mono ?_;rintro e u1 ⟨vv,rfl,hv,hb1⟩
  obtain ⟨A',c',B',d',C',e',b',o',s',rfl,-⟩:=hv.reads
  have hk1:=K0.out.below hb1
  have hv1:=hv.mono (show w.1.size + 1 + 1 + 1 <= _ by simp)
  have lo0:w.1.size + 1 + 1 < u1.1.size:=hk1.lt (x:=(w.1.size + 1 + 1,52,#[O U 0,O U 0])) (by simp)
  clear X0 Y0 X1 Y1 X2 Y2
  obtain ⟨X0,Y0,X1,Y1,X2,Y2,-⟩:=hk1.rd
  have HV:=hid hv1
  have KK:=hid hk1
  clear hb1 hv hv1 hk1 CO
  go_wp2_with fail
  obtain ⟨w9,e9,⟨d0,d1,d2,d3,d4,d5⟩,⟨f0,f1⟩,hb9,hv9⟩:=Eq (w:=w) (x0:=O U x.key) (x1:=ψ A' x.counts.length c') (x2:=ψ B' x.trusts.length d') (x3:=ψ C' x.cells.length e') (x4:=ψ (some ⟨b',o',none⟩) 2 s') (x5:=O U x.count) (a0:=O U 1) (a1:=O U 0) (KK.out.at_ (p:=w.1.size + 1) (t:=31) (cs:=#[O U 0,ψ none 0 0,ψ none 0 0,ψ none 0 0,ψ none 0 0,O U 0]) (by simp)) (KK.out.at_ (p:=w.1.size + 1 + 1) (t:=52) (cs:=#[O U 0,O U 0]) (by simp)) (by omega) KK.out.1 (by omega) (by omega)
  rw [e9]
  exact bodyPost_ret (v:=.tuple #[σ #[O U x.key,ψ A' x.counts.length c',ψ B' x.trusts.length d',ψ C' x.cells.length e',ψ (some ⟨b',o',none⟩) 2 s',O U x.count],σ #[O U 1,O U 0]]) (by simp [results,results172,go_sem,d0,d1,d2,d3,d4,d5,f0,f1]) rfl ⟨_,rfl,(hv9 _ _ _ (by omega) (by omega) HV.out).mono (by omega),hb9⟩
theorem ND:type_of% DA.1:=DA.1
theorem KS:type_of% DA.2.1:=DA.2.1
theorem Lm:type_of% DA.2.2:=DA.2.2
theorem Eo:(∀ (x:VolN) (v:Value) (w:World) (hx:x.Short) (hv:VolR w w.1.size x v) (hfit:x.Fit) (a:Int) (ha:(0 <= a /\ a < x.s0.cells.length)),Calls prog 172 #[v,O U a,O U 0] w (BN w (Eg x a (x.s0.cells.getD a.toNat default).1 (x.s0.cells.getD a.toNat default).2))) /\
 (∀ (x:VolN) (v:Value) (w:World) (hx:x.Short) (hv:VolR w w.1.size x v) (hfit:x.Fit) (a:Int) (ha:(0 <= a /\ a < x.s1.cells.length)),Calls prog 172 #[v,O U a,O U 1] w (BN w (Eg x a (x.s1.cells.getD a.toNat default).1 (x.s1.cells.getD a.toNat default).2))):=by
 refine ⟨fun x v w hx hv hfit a ha=>(fun (z_1:True)=>?_) trivial,fun x v w hx hv hfit a ha=>(fun (z_2:True)=>?_) trivial⟩
 all_goals
  have BE:=hid (fun (u:World) (c0 c1:Int) (hb:Below w.1.size w u)=>Hv x v u hx (hv.grow hb) hfit a c0 c1)
  obtain ⟨A,cap,B,tc,C,cc,b,off,sc,rfl,hA,hB,hC,hbb,h0,h1,hcap⟩:=hv
  have K0:=hid (show Kept w [(w.1.size + 1 + 1,52,#[O U 0,O U 0]),(w.1.size + 1,31,#[O U 0,ψ none 0 0,ψ none 0 0,ψ none 0 0,ψ none 0 0,O U 0]),(w.1.size,31,#[O U x.key,ψ A x.counts.length cap,ψ B x.trusts.length tc,ψ C x.cells.length cc,ψ (some ⟨b,off,none⟩) 2 sc,O U x.count])] _ from ((((Kept.refl w).put1 _ _ #[O U x.key,ψ A x.counts.length cap,ψ B x.trusts.length tc,ψ C x.cells.length cc,ψ (some ⟨b,off,none⟩) 2 sc,O U x.count] rfl).put1 _ _ #[O U 0,ψ none 0 0,ψ none 0 0,ψ none 0 0,ψ none 0 0,O U 0] (by simp)).put1 _ _ #[O U 0,O U 0] (by simp)))
  first
   | guard_hyp z_1
     obtain ⟨Bs,ts,Ds,ds,y0,y1,y2,y3,hrw⟩:=h0
     have QQ:=hid (show ∀ (u:World),Below w.1.size w u -> (u.cell? ⟨b,off,none⟩ = some (O U x.s0.count) /\ u.cell? ⟨b,off + 1,none⟩ = some (ψ Bs x.s0.trusts.length ts) /\ u.cell? ⟨b,off + 2,none⟩ = some (O U x.s0.mac) /\ u.cell? ⟨b,off + 3,none⟩ = some (ψ Ds x.s0.cells.length ds)) from fun u hu=>⟨(hu.cell (p:=⟨b,_,none⟩) hbb).trans y0,(hu.cell (p:=⟨b,_,none⟩) hbb).trans y1,(hu.cell (p:=⟨b,_,none⟩) hbb).trans y2,(hu.cell (p:=⟨b,_,none⟩) hbb).trans y3⟩)
   | obtain ⟨Bs,ts,Ds,ds,y0,y1,y2,y3,hrw⟩:=h1
     have QQ:=hid (show ∀ (u:World),Below w.1.size w u -> (u.cell? ⟨b,off + 4,none⟩ = some (O U x.s1.count) /\ u.cell? ⟨b,off + 4 + 1,none⟩ = some (ψ Bs x.s1.trusts.length ts) /\ u.cell? ⟨b,off + 4 + 2,none⟩ = some (O U x.s1.mac) /\ u.cell? ⟨b,off + 4 + 3,none⟩ = some (ψ Ds x.s1.cells.length ds)) from fun u hu=>⟨(hu.cell (p:=⟨b,_,none⟩) hbb).trans y0,(hu.cell (p:=⟨b,_,none⟩) hbb).trans y1,(hu.cell (p:=⟨b,_,none⟩) hbb).trans y2,(hu.cell (p:=⟨b,_,none⟩) hbb).trans y3⟩)
  clear y0 y1 y2 y3
  first
   | guard_hyp z_1
     have I:=hid (fun u=>Bm 0 0 1 u (by omega) (by omega))
     have hlen:x.s0.cells.length <= 1048576:=hx.2.2.2.2.1
     have hwl:IntKind.i64.wrap ((x.s0.cells.length:Int) - 1) = x.s0.cells.length - 1:=IntWalk.i64_in _ (by omega)
   | have I:=hid (fun u=>Bm 1 0 1 u (by omega) (by omega))
     have hlen:x.s1.cells.length <= 1048576:=hx.2.2.2.2.2.2
     have hwl:IntKind.i64.wrap ((x.s1.cells.length:Int) - 1) = x.s1.cells.length - 1:=IntWalk.i64_in _ (by omega)
  obtain ⟨j,rfl⟩:∃ j:Nat,a = j:=⟨a.toNat,by omega⟩
  first
   | guard_hyp z_1
     have hj:j < x.s0.cells.length:=by omega
   | have hj:j < x.s1.cells.length:=by omega
  obtain ⟨bC,oC,rfl,hbC,hcC⟩:=Cls.at_ hrw.2 hj
  have HC:=hid (fun (u:World) (hb:Below w.1.size w u)=>hcC.below hb hbC)
  first
   | guard_hyp z_1
     have J:=hid (fun u=>Bm j 0 (x.s0.cells.length - 1) u (by omega) (by omega))
     have hlt2:(j:Int) < x.s0.cells.length:=by omega
   | have J:=hid (fun u=>Bm j 0 (x.s1.cells.length - 1) u (by omega) (by omega))
     have hlt2:(j:Int) < x.s1.cells.length:=by omega
  have hj0:(0:Int) <= j:=by omega
  simp only [Int.toNat_natCast]
  first
   | guard_hyp z_1
     generalize x.s0.cells.getD j default = c at HC |-
   | generalize x.s1.cells.getD j default = c at HC |-
  have BF0:=fun (u:World) (hb:Below w.1.size w u)=>BE.out u c.1 c.2 hb
  generalize Eg x j c.1 c.2 = Y at BF0 |-
  obtain ⟨y,p,q⟩:=Y
  have BF:=hid BF0
  clear hcC hj ha BE BF0
  first
   | guard_hyp z_1
     clear hrw hA hB hC h1
   | clear hrw hA hB hC h0
  have q_:=QQ.out _ K0.out.1
  obtain ⟨q0,q1,q2,q3⟩:=q_
  go_enter func172,ntmps172
  go_wp2_with fail
  refine (I.out _).mono ?_;rintro e w' ⟨rfl,rfl⟩
  obtain ⟨X0,Y0,X1,Y1,X2,Y2,-⟩:=K0.out.rd
  go_wp2_with fail
  refine (J.out _).mono ?_;rintro e w' ⟨rfl,rfl⟩
  go_upto_region 3 with fail
  obtain ⟨qc0,qc1⟩:=HC.out _ K0.out.1
  go_region_with (go_at_call 171;refine (BF.out _ K0.out.1.drew).mono ?_;rintro e u1 ⟨cs,rfl,hv,hb1⟩;have hk1:=K0.out.drew.below hb1;obtain ⟨mc0,mf0,mc1,mf1,mc2,mf2,-⟩:=hk1.rd;obtain ⟨A',c',B',d',C',e',b',o',s',e1,-⟩:=hv.reads;injection e1 with e1;subst e1;have HV:=hid (hv.mono (show w.1.size + 1 + 1 + 1 <= _ by simp [World.drew]));have KK:=hid hk1;clear hv hk1 hb1)
  all_goals
   go_wp2_with fail
   obtain ⟨w9,e9,⟨d0,d1,d2,d3,d4,d5⟩,⟨f0,f1⟩,hb9,hv9⟩:=Eq (w:=w) (x0:=O U y.key) (x1:=ψ A' y.counts.length c') (x2:=ψ B' y.trusts.length d') (x3:=ψ C' y.cells.length e') (x4:=ψ (some ⟨b',o',none⟩) 2 s') (x5:=O U y.count) (a0:=O U p) (a1:=O U q) (KK.out.at_ (p:=w.1.size + 1) (t:=31) (cs:=#[O U 0,ψ none 0 0,ψ none 0 0,ψ none 0 0,ψ none 0 0,O U 0]) (by simp)) (KK.out.at_ (p:=w.1.size + 1 + 1) (t:=52) (cs:=#[O U 0,O U 0]) (by simp)) (by omega) KK.out.1 (by omega) (by omega)
   rw [e9]
   exact bodyPost_ret (v:=.tuple #[σ #[O U y.key,ψ A' y.counts.length c',ψ B' y.trusts.length d',ψ C' y.cells.length e',ψ (some ⟨b',o',none⟩) 2 s',O U y.count],σ #[O U p,O U q]]) (by simp [results,results172,go_sem,d0,d1,d2,d3,d4,d5,f0,f1]) rfl ⟨_,rfl,(hv9 _ _ _ (by omega) (by omega) HV.out).mono (by omega),hb9⟩
theorem Kt:type_of% Eo.1:=Eo.1
theorem Lk:type_of% Eo.2:=Eo.2
theorem Kc (x:VolN) (v:Value) (w:World) (hx:x.Short) (hv:VolR w w.1.size x v) (hfit:x.Fit) (a slot:Int):Calls prog 172 #[v,O U a,O U slot] w (BN w (Eu x a slot)):=by
 unfold Eu
 by_cases h0:slot = 0
 ·subst h0
  rw [if_pos rfl]
  by_cases ha:0 <= a /\ a < x.s0.cells.length
  ·rw [if_pos ha];exact Kt x v w hx hv hfit a ha
  ·rw [if_neg ha];exact KS x v w hx hv hfit a ha
 ·rw [if_neg h0]
  by_cases h1:slot = 1
  ·subst h1
   rw [if_pos rfl]
   by_cases ha:0 <= a /\ a < x.s1.cells.length
   ·rw [if_pos ha];exact Lk x v w hx hv hfit a ha
   ·rw [if_neg ha];exact Lm x v w hx hv hfit a ha
  ·rw [if_neg h1];exact ND x v w hx hv a slot (by omega)

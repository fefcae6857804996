import Derived.Test.YteoijmejhdocdaaGreatDoorV21
namespace Go.Proofs.YteoijmejhdocdaaGreatDoor.Mx
open Go.ChangeShapes Go.WideShapes Go.ChangeAt Go.RowKit
set_option linter.unusedVariables false
open Go.Lib (hid)
open Go.Proofs.Tryz
set_option maxRecDepth 20000
set_option maxHeartbeats 64000000
open Value renaming int → O, slice → ψ, bool → φ, agg → σ
open IntKind renaming i64 → U
theorem Ed {w1:World} {r:Nat} {t:TypeId} {x0 x1 x2 x3 x4 x5 y0 y1 y2 y3 y4 y5:Value} (hk:Aa w1 r t #[y0,y1,y2,y3,y4,y5]):
    Aa ((((((w1.setCell ⟨r,0,none⟩ x0).setCell ⟨r,1,none⟩ x1).setCell ⟨r,2,none⟩ x2).setCell ⟨r,3,none⟩ x3).setCell ⟨r,4,none⟩ x4).setCell ⟨r,5,none⟩ x5) r t #[x0,x1,x2,x3,x4,x5] /\
    w1.grownBy ((((((w1.setCell ⟨r,0,none⟩ x0).setCell ⟨r,1,none⟩ x1).setCell ⟨r,2,none⟩ x2).setCell ⟨r,3,none⟩ x3).setCell ⟨r,4,none⟩ x4).setCell ⟨r,5,none⟩ x5) (some r):=by
 have h:=(((((hk.set_ 0 x0).set_ 1 x1).set_ 2 x2).set_ 3 x3).set_ 4 x4).set_ 5 x5
 simp only [List.setIfInBounds_toArray,List.set_cons_zero,List.set_cons_succ] at h
 exact ⟨h,Ai (Ai (Ai (Ai (Ai (Ai (Aj w1 (some r)) 0 x0) 1 x1) 2 x2) 3 x3) 4 x4) 5 x5⟩
def IR (w:World) (x:VolN) (r:Int) (s:Int) (y:VolN) (wr:World):Prop:=
 y.Short /\ y.Fit /\ y.CurOk /\ y.counts = x.counts /\ ∃ A1 c1 B1 k1 C1 e1 b1 o1 s1,Kept w [(w.1.size + 1,31,#[O U 0,ψ none 0 0,ψ none 0 0,ψ none 0 0,ψ none 0 0,O U 0]),(w.1.size,31,#[O U y.key,ψ A1 y.counts.length c1,ψ B1 y.trusts.length k1,ψ C1 y.cells.length e1,ψ (some ⟨b1,o1,none⟩) 2 s1,O U y.count])] wr /\ VolR wr wr.1.size y (σ #[O U y.key,ψ A1 y.counts.length c1,ψ B1 y.trusts.length k1,ψ C1 y.cells.length e1,ψ (some ⟨b1,o1,none⟩) 2 s1,O U y.count]) /\
  ((s = 0 /\ ∃ n:Nat,Fp r n y = DR x r /\ x.counts.getD r.toNat 0 - 1 - (y.trusts.getD r.toNat default).cursor <= n) \/ (s ≠ 0 /\ DR x r = (y,s) /\ VolO wr (w.1.size + 1 + 1) y (σ #[O U y.key,ψ A1 y.counts.length c1,ψ B1 y.trusts.length k1,ψ C1 y.cells.length e1,ψ (some ⟨b1,o1,none⟩) 2 s1,O U y.count])))
def Jv (w:World) (r:Int) (cnt:Int) (i:Value) (wr:World):Nat:=
 if intOf i = 0 then 1 + (match wr.cell? ⟨w.1.size,2,none⟩ with
  | some (ψ (some a) _ _)=>(match wr.cell? ⟨a.block,a.off + r.toNat * 8 + 2,none⟩ with | some (O U c)=>(cnt - c).toNat | _=>0)
  | _=>0) else 0
theorem Ja {w wr:World} {x y:VolN} {r:Int} {s:Int} (h:IR w x r s y wr) (hr:r.toNat < x.counts.length):
    Jv w r (x.counts.getD r.toNat 0) (O U s) wr = if s = 0 then 1 + (x.counts.getD r.toNat 0 - (y.trusts.getD r.toNat default).cursor).toNat else 0:=by
 obtain ⟨_,hf,_,hc,A1,c1,B1,k1,C1,e1,b1,o1,s1,hk,⟨A2,c2,B2,d2,C2,e2,b2,o2,s2,hv,_,hB,_⟩,_⟩:=h
 have hB2:B1 = B2:=by injection hv with hv;injection hv with hv;injection hv with _ hv;injection hv with _ hv;injection hv with hv1 hv;injection hv1
 subst hB2
 obtain ⟨bT,oT,rfl,hb,hT⟩:=Trs.at_ hB (k:=r.toNat) (by rw [hf.1,hc];exact hr)
 have h2:=(hk.at_ (p:=w.1.size) (t:=31) (cs:=#[O U y.key,ψ A1 y.counts.length c1,ψ (some ⟨bT,oT,none⟩) y.trusts.length k1,ψ C1 y.cells.length e1,ψ (some ⟨b1,o1,none⟩) 2 s1,O U y.count]) (by simp)).cell 2
 unfold Jv
 rw [h2]
 simp only [List.getElem?_toArray,List.getElem?_cons_succ,List.getElem?_cons_zero,hT.2.2.1,intOf]
theorem Lz (x:VolN) (A:Option Addr) (cap:Nat) (B:Option Addr) (tc:Nat) (C:Option Addr) (cc:Nat) (b off sc:Nat) (w:World) (hx:x.Short) (hcap:x.counts.length <= cap) (hA:Ints w U w.1.size A x.counts) (hB:Trs w w.1.size B x.trusts) (hC:Cls w w.1.size C x.cells) (hbb:b < w.1.size) (h0:Bq w w.1.size b off x.s0) (h1:Bq w w.1.size b (off + 4) x.s1) (hfit:x.Fit) (hcur:x.CurOk) (r:Int) (hr0:0 <= r) (hr:r < x.counts.length):
    Calls prog 63 #[σ #[O U x.key,ψ A x.counts.length cap,ψ B x.trusts.length tc,ψ C x.cells.length cc,ψ (some ⟨b,off,none⟩) 2 sc,O U x.count],O U r] w (Ci w (DR x r)):=by
 have K0:=hid (show Kept w [(w.1.size + 1,31,#[O U 0,ψ none 0 0,ψ none 0 0,ψ none 0 0,ψ none 0 0,O U 0]),(w.1.size,31,#[O U x.key,ψ A x.counts.length cap,ψ B x.trusts.length tc,ψ C x.cells.length cc,ψ (some ⟨b,off,none⟩) 2 sc,O U x.count])] _ from (((Kept.refl w).put1 _ _ #[O U x.key,ψ A x.counts.length cap,ψ B x.trusts.length tc,ψ C x.cells.length cc,ψ (some ⟨b,off,none⟩) 2 sc,O U x.count] rfl).put1 _ _ #[O U 0,ψ none 0 0,ψ none 0 0,ψ none 0 0,ψ none 0 0,O U 0] (by simp)))
 have R0:=hid (show IR w x r 0 x _ from ⟨hx,hfit,hcur,rfl,A,cap,B,tc,C,cc,b,off,sc,K0.out,VolR.more (VolR.below ⟨A,cap,B,tc,C,cc,b,off,sc,rfl,hA,hB,hC,hbb,h0,h1,hcap⟩ K0.out.1 (lr _)) K0.out.1.size,.inl ⟨rfl,_,rfl,by omega⟩⟩)
 have hrn:r.toNat < x.counts.length:=by omega
 clear hx hcap hA hB hC hbb h0 h1 hfit hcur
 go_enter func63,ntmps63
 go_wp2_with fail
 go_loopw [6] (fun i wr=>∃ (s:Int) (y:VolN),i = O U s /\ IR w x r s y wr) (fun i wr=>Jv w r (x.counts.getD r.toNat 0) i wr)
 case atStart=>exact ⟨0,x,rfl,R0.out⟩
 case round=>
  obtain ⟨s,y,rfl,hrel⟩:=hrel
  have HM:=hid (Ja hrel hrn)
  obtain ⟨yx,yf,yc,hcn,A1,c1,B1,k1,C1,e1,b1,o1,s1,hk,hv,hs⟩:=hrel
  have HCN:=hid hcn
  clear hcn
  rcases hs with ⟨rfl,n,hn,hle⟩ | ⟨hs,hcl,ho⟩
  ·obtain ⟨A2,c2,B2,d2,C2,e2,b2,o2,s2,hq,g1,g2,g3,g4,g5,g6,g7⟩:=hv
   have hST:=hid (Hr y A2 c2 B2 d2 C2 e2 b2 o2 s2 _ yx g7 g1 g2 g3 g4 g5 g6 yf yc r)
   rw [<- hq] at hST
   have HN:=hid (NB (r:=r) yf)
   have P1:=hid (Mf yx r)
   have P2:=hid (Ol yf r)
   have P3:=hid (Ov yc r)
   have P4:=hid (FH y r).2.1
   have HON:=hid (fun n=>MG (r:=r) (n:=n) (y:=y))
   have HEN:=hid (fun n=>Lr (r:=r) (n:=n) (y:=y))
   clear yx yf yc g1 g2 g3 g4 g5 g6 g7 hq
   obtain ⟨⟨z,q⟩,hz⟩:∃ Z,Z = AM y r:=⟨_,rfl⟩
   rw [<- hz] at hST HN P1 P2 P3 P4 HON HEN
   clear hz
   simp only [] at HN P1 P2 P3 P4 HON HEN
   have HL:=hid (And.intro hn hle)
   clear hn hle
   obtain ⟨X0,Y0,X1,Y1,-⟩:=hk.rd
   go_wp2_with fail
   refine hST.out.mono ?_;rintro e u1 ⟨cs,rfl,hv1,hb1⟩
   obtain ⟨A',c',B',d',C',e',b',o',s',e1q,-⟩:=hv1.reads
   injection e1q with e1q
   subst e1q
   have hk1:=hk.below hb1
   have hl1:w.1.size + 1 < _:=hk.lt (x:=(w.1.size + 1,31,#[O U 0,ψ none 0 0,ψ none 0 0,ψ none 0 0,ψ none 0 0,O U 0])) (by simp)
   have lo0:w.1.size + 1 < u1.1.size:=hk1.lt (x:=(w.1.size + 1,31,#[O U 0,ψ none 0 0,ψ none 0 0,ψ none 0 0,ψ none 0 0,O U 0])) (by simp)
   have hk2:=hk1.put1 u1.1.size 31 #[O U z.key,ψ A' z.counts.length c',ψ B' z.trusts.length d',ψ C' z.cells.length e',ψ (some ⟨b',o',none⟩) 2 s',O U z.count] rfl
   have hv2:=(hv1.mono (show w.1.size + 1 + 1 <= _ by omega)).below ((Below.refl _ _).alloc (lr _) (.cells #[O U z.key,ψ A' z.counts.length c',ψ B' z.trusts.length d',ψ C' z.cells.length e',ψ (some ⟨b',o',none⟩) 2 s',O U z.count] 31))
   clear X0 Y0 X1 Y1 hb1 hv1 hk hk1 hST K0 R0
   go_upto_region 4 with fail
   obtain ⟨X0,Y0,X1,Y1,X2,Y2,-⟩:=hk2.rd
   have HV:=hid hv2
   clear hv2
   go_wp2_with fail
   have hvp:=Ed (x0:=O U z.key) (x1:=ψ A' z.counts.length c') (x2:=ψ B' z.trusts.length d') (x3:=ψ C' z.cells.length e') (x4:=ψ (some ⟨b',o',none⟩) 2 s') (x5:=O U z.count) (hk2.at_ (p:=w.1.size) (t:=31) (cs:=#[O U y.key,ψ A1 y.counts.length c1,ψ B1 y.trusts.length k1,ψ C1 y.cells.length e1,ψ (some ⟨b1,o1,none⟩) 2 s1,O U y.count]) (by simp))
   generalize World.setCell _ _ _ = w5 at hvp |-
   have hk5:=hk2.put (k:=2) rfl (by unfold Apart;simp <;> omega) hvp.2 hvp.1
   have hv5:=HV.out.out hvp.2 (by omega)
   have hk6:Kept w [(w.1.size + 1,31,#[O U 0,ψ none 0 0,ψ none 0 0,ψ none 0 0,ψ none 0 0,O U 0]),(w.1.size,31,#[O U z.key,ψ A' z.counts.length c',ψ B' z.trusts.length d',ψ C' z.cells.length e',ψ (some ⟨b',o',none⟩) 2 s',O U z.count])] w5:=Kept.sub (show Kept w [(u1.1.size,31,#[O U z.key,ψ A' z.counts.length c',ψ B' z.trusts.length d',ψ C' z.cells.length e',ψ (some ⟨b',o',none⟩) 2 s',O U z.count]),(w.1.size + 1,31,#[O U 0,ψ none 0 0,ψ none 0 0,ψ none 0 0,ψ none 0 0,O U 0]),(w.1.size,31,#[O U z.key,ψ A' z.counts.length c',ψ B' z.trusts.length d',ψ C' z.cells.length e',ψ (some ⟨b',o',none⟩) 2 s',O U z.count])] w5 from hk5) (by intro y hy;simp at hy |-;rcases hy with rfl | rfl <;> simp)
   have hrel:IR w x r q z w5:=⟨P1.out,P2.out,P3.out,P4.out.trans HCN.out,A',c',B',d',C',e',b',o',s',hk6,hv5.reads,by
    by_cases hq0:q = 0
    ·subst hq0
     obtain ⟨m1,m2⟩:=HN.out rfl
     rw [HCN.out] at m1
     obtain ⟨n1,n2⟩:=HL.out
     obtain ⟨k,rfl⟩:∃ k,n = k + 1:=⟨n - 1,by omega⟩
     exact .inl ⟨rfl,k,by rw [<- HON.out k rfl];exact n1,by rw [m2];omega⟩
    ·exact .inr ⟨hq0,by rw [<- HL.out.1];exact HEN.out n hq0,hv5⟩⟩
   have HR:=hid hrel
   clear hrel hk5 hk6 hv5 hvp X0 Y0 X1 Y1 X2 Y2 hk2 HV
   go_wp2_with fail
   go_roundw
   case rel=>exact ⟨q,z,rfl,HR.out⟩
   case measure=>
    rw [Ja HR.out hrn,HM.out]
    rw [show (∀ (aa bb:Nat),(if True then aa else bb) = aa) from fun aa bb=>if_pos trivial]
    by_cases hq0:q = 0
    ·subst hq0;obtain ⟨m1,m2⟩:=HN.out rfl;rw [HCN.out] at m1;rw [if_pos rfl,m2];omega
    ·rw [if_neg hq0];omega
  ·have hsb:(s == (0:Int)) = false:=beq_eq_false_iff_ne.2 hs
   have HO:=hid ho
   clear ho hs hv
   rw [hcl]
   obtain ⟨X0,Y0,X1,Y1,-⟩:=hk.rd
   go_wp2_with fail
   obtain ⟨w9,e9,⟨d0,d1,d2,d3,d4,d5⟩,hb9,hg9⟩:=AN (w:=w) (x0:=O U y.key) (x1:=ψ A1 y.counts.length c1) (x2:=ψ B1 y.trusts.length k1) (x3:=ψ C1 y.cells.length e1) (x4:=ψ (some ⟨b1,o1,none⟩) 2 s1) (x5:=O U y.count) (hk.at_ (p:=w.1.size + 1) (t:=31) (cs:=#[O U 0,ψ none 0 0,ψ none 0 0,ψ none 0 0,ψ none 0 0,O U 0]) (by simp)) hk.1 (by omega)
   rw [e9]
   exact bodyPost_ret (v:=.tuple #[σ #[O U y.key,ψ A1 y.counts.length c1,ψ B1 y.trusts.length k1,ψ C1 y.cells.length e1,ψ (some ⟨b1,o1,none⟩) 2 s1,O U y.count],O U s]) (by simp [results,results63,go_sem,d0,d1,d2,d3,d4,d5]) rfl ⟨_,rfl,(HO.out.out hg9 (by omega)).mono (by omega),hb9⟩
noncomputable def Dx (x:VolN) (a value:Int):VolN × Int × Int:=
 open Classical in if BP value then Ca x a value else (x,0,1)
theorem Ky (x:VolN) (A:Option Addr) (cap:Nat) (B:Option Addr) (tc:Nat) (C:Option Addr) (cc:Nat) (b off sc:Nat) (w:World) (hx:x.Short) (hcap:x.counts.length <= cap) (hA:Ints w U w.1.size A x.counts) (hB:Trs w w.1.size B x.trusts) (hC:Cls w w.1.size C x.cells) (hbb:b < w.1.size) (h0:Bq w w.1.size b off x.s0) (h1:Bq w w.1.size b (off + 4) x.s1) (hfit:x.Fit) (a value:Int) (ha:I64 a):
    Calls prog 55 #[σ #[O U x.key,ψ A x.counts.length cap,ψ B x.trusts.length tc,ψ C x.cells.length cc,ψ (some ⟨b,off,none⟩) 2 sc,O U x.count],O U a,O U value] w (Jh w (Dx x a value)):=by
 have K0:=hid (show Kept w [(w.1.size + 1,31,#[O U 0,ψ none 0 0,ψ none 0 0,ψ none 0 0,ψ none 0 0,O U 0]),(w.1.size,31,#[O U x.key,ψ A x.counts.length cap,ψ B x.trusts.length tc,ψ C x.cells.length cc,ψ (some ⟨b,off,none⟩) 2 sc,O U x.count])] _ from (((Kept.refl w).put1 _ _ #[O U x.key,ψ A x.counts.length cap,ψ B x.trusts.length tc,ψ C x.cells.length cc,ψ (some ⟨b,off,none⟩) 2 sc,O U x.count] rfl).put1 _ _ #[O U 0,ψ none 0 0,ψ none 0 0,ψ none 0 0,ψ none 0 0,O U 0] (by simp)))
 have CO:=hid (fun (u:World) (hb:Below w.1.size w u)=>Dy x A cap B tc C cc b off sc u hx ((hA.below hb (lr _)).more hb.size) ((hB.below hb (lr _)).more hb.size) ((hC.below hb (lr _)).more hb.size) (Nat.lt_of_lt_of_le hbb hb.size) ((h0.below hb (lr _) hbb).more hb.size) ((h1.below hb (lr _) hbb).more hb.size))
 have TO:=hid (fun (u:World) (hb:Below w.1.size w u)=>GS x A cap B tc C cc b off sc u hx hcap ((hA.below hb (lr _)).more hb.size) ((hB.below hb (lr _)).more hb.size) ((hC.below hb (lr _)).more hb.size) (Nat.lt_of_lt_of_le hbb hb.size) ((h0.below hb (lr _) hbb).more hb.size) ((h1.below hb (lr _) hbb).more hb.size) hfit a value ha)
 clear hA hB hC h0 h1 hfit hbb ha
 unfold Dx
 by_cases hv:BP value
 have z_1:=trivial;rotate_left;have z_2:=trivial;rotate_left
 all_goals
  first
   | guard_hyp z_1
     rw [if_pos hv]
     have V:=hid (fun (u:World)=>DI value u hv)
     obtain ⟨⟨y,p,q⟩,hy⟩:∃ Y,Y = Ca x a value:=⟨_,rfl⟩
     rw [<- hy] at TO |-
     clear hy
   | rw [if_neg hv]
     have V:=hid (fun (u:World)=>ER value u hv)
     skip
  go_enter func55,ntmps55
  go_wp2_with fail
  refine (V.out _).mono ?_;rintro e w' ⟨rfl,rfl⟩
  obtain ⟨X0,Y0,X1,Y1,-⟩:=K0.out.rd
  go_wp2_with fail
  first
   | guard_hyp z_1
     refine (TO.out _ K0.out.1).mono ?_;rintro e u1 ⟨cs,rfl,hv1,hb1⟩
   | refine (CO.out _ K0.out.1).mono ?_;rintro e u1 ⟨vv,rfl,hv1,hb1⟩
  obtain ⟨A',c',B',d',C',e',b',o',s',e1,-⟩:=hv1.reads
  first
   | guard_hyp z_1
     injection e1 with e1
   | skip
  subst e1
  have hk1:=K0.out.below hb1
  have hv2:=hv1.mono (show w.1.size + 1 + 1 <= _ by simp)
  have lo0:w.1.size + 1 < u1.1.size:=hk1.lt (x:=(w.1.size + 1,31,#[O U 0,ψ none 0 0,ψ none 0 0,ψ none 0 0,ψ none 0 0,O U 0])) (by simp)
  clear hb1 hv1 X0 Y0 X1 Y1 CO TO V
  obtain ⟨X0,Y0,X1,Y1,-⟩:=hk1.rd
  have HV:=hid hv2
  clear hv2
  go_wp2_with fail
  first
   | guard_hyp z_1
     obtain ⟨w9,e9,⟨d0,d1,d2,d3,d4,d5⟩,hb9,hg9⟩:=AN (w:=w) (x0:=O U y.key) (x1:=ψ A' y.counts.length c') (x2:=ψ B' y.trusts.length d') (x3:=ψ C' y.cells.length e') (x4:=ψ (some ⟨b',o',none⟩) 2 s') (x5:=O U y.count) (hk1.at_ (p:=w.1.size + 1) (t:=31) (cs:=#[O U 0,ψ none 0 0,ψ none 0 0,ψ none 0 0,ψ none 0 0,O U 0]) (by simp)) hk1.1 (by omega)
   | obtain ⟨w9,e9,⟨d0,d1,d2,d3,d4,d5⟩,hb9,hg9⟩:=AN (w:=w) (x0:=O U x.key) (x1:=ψ A' x.counts.length c') (x2:=ψ B' x.trusts.length d') (x3:=ψ C' x.cells.length e') (x4:=ψ (some ⟨b',o',none⟩) 2 s') (x5:=O U x.count) (hk1.at_ (p:=w.1.size + 1) (t:=31) (cs:=#[O U 0,ψ none 0 0,ψ none 0 0,ψ none 0 0,ψ none 0 0,O U 0]) (by simp)) hk1.1 (by omega)
  rw [e9]
  first
   | guard_hyp z_1
     exact bodyPost_ret (v:=.tuple #[σ #[O U y.key,ψ A' y.counts.length c',ψ B' y.trusts.length d',ψ C' y.cells.length e',ψ (some ⟨b',o',none⟩) 2 s',O U y.count],O U p,O U q]) (by simp [results,results55,go_sem,d0,d1,d2,d3,d4,d5]) rfl ⟨_,rfl,(HV.out.out hg9 (by omega)).mono (by omega),hb9⟩
   | exact bodyPost_ret (v:=.tuple #[σ #[O U x.key,ψ A' x.counts.length c',ψ B' x.trusts.length d',ψ C' x.cells.length e',ψ (some ⟨b',o',none⟩) 2 s',O U x.count],O U 0,O U 1]) (by simp [results,results55,go_sem,d0,d1,d2,d3,d4,d5]) rfl ⟨_,rfl,(HV.out.out hg9 (by omega)).mono (by omega),hb9⟩
theorem Rf {x y z u:Int} (hx:0 <= x) (hy:0 <= y) (hz:0 <= z) (hu:0 <= u):Fine [x,y,z,u]:=by
 intro i hi
 match i,hi with
 | 0,_=>exact hx
 | 1,_=>exact hy
 | 2,_=>exact hz
 | 3,_=>exact hu
theorem EN {a b:Int} (ha:AU a) (hb:AU b):AU (Bf a b):=by
 unfold AU at *
 unfold Bf
 rw [if_pos ⟨ha,hb⟩];omega
theorem QY {key a t v:Int} (hk:Fc key) (h:Dc a t v):AU (Di key a t v):=by
 refine ⟨?_,(Rz key a t v).2⟩
 rw [JG h]
 unfold Dc isAt isTm BP at h
 exact MJ hk.1 hk.2 (Rf (by omega) (by omega) (by omega) (by omega))
theorem Nc {key a t v:Int} (hk:Fc key) (h:Dc a t v):BP (Fz key a t v):=by
 have hs:=Ix hk.1 hk.2 h.1.1 h.2.1.1
 unfold Fz
 rw [Gm hs h.2.2]
 unfold BP;omega
theorem JI {key a t v:Int} (hk:Fc key) (ha:isAt a) (h:AO t v):BP (Gv key a t v):=by
 have hs:=Ix hk.1 hk.2 ha.1 h.1.1
 unfold Gv
 rw [Gm hs h.2]
 unfold BP;omega
theorem ED {key a t v:Int} (hk:Fc key) (ha:isAt a) (h:AO t v):AU (Di key (Ag a t v).1 (Ag a t v).2.1 (Ag a t v).2.2):=by
 have ht:Dc a t v:=⟨ha,h.1,h.2⟩
 rw [Gs ht];exact QY hk ht
theorem GL {key a t v:Int} (hk:Fc key) (ha:isAt a) (ht:isTm t) (hv:BP v):AO (Al key a t v).1 (Al key a t v).2:=by
 have h:Dc a t v:=⟨ha,ht,hv⟩
 rw [Lq hk h];exact ⟨ht,Nc hk h⟩
theorem QL {key:Int} {l:List Int} {a:Int} (hp:Ay key l) (h:0 <= Am key l a):isAt a:=by
 obtain ⟨i,e,hi,-,h0,h1,h2⟩:=Et h
 have hm:=Cy hp.2.2.1 (i:=i + 1) (j:=l.length) (by omega) (lr _)
 have:=hp.2.2.2
 unfold isAt;omega
theorem Mj {key:Int} {l:List Int} {t:Tru} {a ct cv value:Int} (hp:Ay key l) (hr:0 <= Am key l a) (ht:Bk key l (Am key l a) t) (hc:AO ct cv)
    (hk:(BM key l t a ct cv value).2.2.2 ≠ 1):Bk key l (Am key l a) (BM key l t a ct cv value).1 /\ AO (BM key l t a ct cv value).2.1.1 (BM key l t a ct cv value).2.1.2:=by
 unfold BM at hk |-
 split
 ·rename_i hok
  split
  ·exact ⟨ht,hc⟩
  ·split
   ·exact ⟨ht,hc⟩
   ·split
    ·exact ⟨ht,hc⟩
    ·rename_i hf hcl hti
     have ha:=QL hp hr
     obtain ⟨p1,p2,p3,p4,p5,p6,p7,p8,p9,p10⟩:=ht
     have hv:BP (if value = -1 then Av key a ct cv else value):=by
      split
      ·rw [GP hp.1 ha hc];exact JI hp.1 ha hc
      ·rcases hok.2.2.2 with h | h
       ·exact absurd h ‹_›
       ·exact h
     have htm:isTm (t.clock + 1):=by unfold isTm at p3 |-;omega
     have hcell:=GL hp.1 ha htm hv
     have hs1:=ED hp.1 ha hc
     have hs2:=ED hp.1 ha hcell
     refine ⟨?_,hcell⟩
     simp only []
     cases hb:DC key l t.cursor a with
     | true=>
       have hcur:t.cursor ≠ 0:=by
        intro h0
        unfold DC at hb
        simp only [Bool.and_eq_true,decide_eq_true_eq] at hb
        obtain ⟨i,e,hi,-,q0,q1,q2⟩:=Et hr
        rw [e,Cs hp hi,h0] at hb
        omega
       exact ⟨p1,p2,htm,p4,p5,fun h=>absurd h hcur,p7,p8,EN p9 hs1,EN p10 hs2⟩
     | false=>exact ⟨p1,p2,htm,p4,p5,p6,EN p7 hs1,EN p8 hs2,p9,p10⟩
 ·rename_i hn
  rw [if_neg hn] at hk
  exact absurd rfl hk
theorem LY {key:Int} {l:List Int} {r:Nat} {t:Tru} {ct cv:Int} (ht:Bk key l r t) (hc:AO ct cv):
    Bk key l r (Bx key l r t ct cv).1 /\ AO (Bx key l r t ct cv).2.1.1 (Bx key l r t ct cv).2.1.2:=by
 have hp:=ht.1
 have hrl:r < l.length:=by have:=ht.2.1;omega
 unfold Bx
 rw [if_pos ⟨ht,hc⟩]
 split
 ·exact ⟨ht,hc⟩
 ·split
  ·exact ⟨ht,hc⟩
  ·split
   ·exact ⟨ht,hc⟩
   ·rename_i hf hcl hti
    obtain ⟨p1,p2,p3,p4,p5,p6,p7,p8,p9,p10⟩:=ht
    rw [Int.toNat_natCast] at *
    have ha:isAt (Ad key l r + t.cursor):=by
     rw [Cs hp hrl]
     have h1:=Dl hp.2.2.1 (k:=r) (by omega)
     have h2:=Dd l hrl
     have h3:=Cy hp.2.2.1 (i:=r + 1) (j:=l.length) (by omega) (lr _)
     have:=hp.2.2.2
     unfold isAt;omega
    have htm:isTm (t.clock + 1):=by unfold isTm at p3 |-;omega
    have hv:BP (Av key (Ad key l r + t.cursor) ct cv):=by rw [GP hp.1 ha hc];exact JI hp.1 ha hc
    have hcell:=GL hp.1 ha htm hv
    have hs1:=EN p7 (ED hp.1 ha hc)
    have hs2:=EN p10 (ED hp.1 ha hcell)
    split
    ·refine ⟨⟨p1,p2,htm,p4,?_,fun h=>?_,hs1,p8,p9,hs2⟩,hcell⟩
     ·simp only [Bo];rw [Int.toNat_natCast];omega
     ·simp only [Bo] at h;omega
    ·refine ⟨?_,hcell⟩
     have z0:AU 0:=by unfold AU;omega
     have hlc:=hp.2.2.1 r hrl
     unfold AJ
     split
     ·refine ⟨p1,p2,htm,⟨?_,?_⟩,⟨by simp only [];omega,by simp only [];rw [Int.toNat_natCast];omega⟩,fun _=>⟨rfl,rfl⟩,p9,hs2,z0,z0⟩
      ·simp only [Bo];omega
      ·simp only [Bo];omega
     ·exact ⟨p1,p2,htm,p4,⟨by simp only [];omega,by simp only [];rw [Int.toNat_natCast];omega⟩,fun _=>⟨rfl,rfl⟩,hs1,p8,z0,z0⟩
theorem Bk.i64 {key:Int} {l:List Int} {r:Int} {t:Tru} (h:Bk key l r t):TruI t:=by
 obtain ⟨hp,p2,p3,p4,p5,p6,p7,p8,p9,p10⟩:=h
 have hl:l.getD r.toNat 0 <= 8:=(hp.2.2.1 r.toNat (by omega)).2
 unfold isTm at p3
 unfold AU at p7 p8 p9 p10
 exact ⟨⟨by omega,by omega⟩,⟨by omega,by omega⟩,⟨by omega,by omega⟩,⟨by omega,by omega⟩,⟨by omega,by omega⟩,⟨by omega,by omega⟩,⟨by omega,by omega⟩⟩
theorem Ba.i64 {key:Int} {l:List Int} {L:List Tru} (h:Ba key l L):Cx L:=fun i hi=>(h.2.2 i hi).i64
def SlN.Inv (key:Int) (l:List Int) (s:SlN):Prop:=(s.cells = [] \/ CP key l s.cells) /\ s.trusts.length <= 4 /\ Cx s.trusts /\ I64 s.count /\ I64 s.mac
def VolN.Inv (x:VolN):Prop:=Ay x.key x.counts /\ Ba x.key x.counts x.trusts /\ CP x.key x.counts x.cells /\ (0 <= x.count /\ x.count <= 10000) /\ x.s0.Inv x.key x.counts /\ x.s1.Inv x.key x.counts
theorem CP.len {key:Int} {l:List Int} {L:List Ce} (hp:Ay key l) (h:CP key l L):(L.length:Int) = upTo l l.length /\ L.length <= 24:=by
 have e:=h.2
 unfold Bi at e
 rw [if_pos hp] at e
 have:=hp.2.2.2
 exact ⟨e,by omega⟩
theorem SlN.Inv.fits {key:Int} {l:List Int} {s:SlN} (hp:Ay key l) (h:s.Inv key l):s.Fits:=by
 obtain ⟨h0,h1,h2,h3,h4⟩:=h
 refine ⟨by omega,?_,h2,h3⟩
 rcases h0 with h0 | h0
 ·rw [h0];simp
 ·have:=(h0.len hp).2;omega
theorem VolN.Inv.short {x:VolN} (h:x.Inv):x.Short:=by
 obtain ⟨hp,ht,hc,hn,h0,h1⟩:=h
 have a:=hp.2.1.2
 have b:=ht.2.1
 have c:=(hc.len hp).2
 have d:=h0.fits hp
 have e:=h1.fits hp
 exact ⟨by omega,by omega,by omega,d.1,d.2.1,e.1,e.2.1⟩
theorem VolN.Inv.fit {x:VolN} (h:x.Inv):x.Fit:=⟨h.2.1.2.1,(h.2.2.1.len h.1).1⟩
theorem VolN.Inv.cur {x:VolN} (h:x.Inv):x.CurOk:=by
 intro i hi
 have ht:=h.2.1.2.2 i (by rw [h.2.1.2.1];exact hi)
 have:=ht.2.2.2.2.1
 rw [Int.toNat_natCast] at this
 omega
theorem Nq {key:Int} {l:List Int} {L:List Tru} {r:Nat} {t:Tru} (h:Ba key l L) (ht:Bk key l r t):Ba key l (L.set r t):=by
 refine ⟨h.1,by rw [List.length_set];exact h.2.1,fun i hi=>?_⟩
 rw [List.length_set] at hi
 rw [He]
 split
 ·rename_i e;rw [<- e.1];exact ht
 ·exact h.2.2 i hi
theorem JL {key:Int} {l:List Int} {L:List Ce} {j:Nat} {c:Ce} (h:CP key l L) (hc:AO c.1 c.2):CP key l (L.set j c):=by
 refine ⟨fun i hi=>?_,by rw [List.length_set];exact h.2⟩
 rw [List.length_set] at hi
 rw [He]
 split
 ·exact hc
 ·exact h.1 i hi
theorem VolN.Inv.put {x:VolN} (h:x.Inv) {r:Nat} {t:Tru} {j:Nat} {c:Ce} (ht:Bk x.key x.counts r t) (hc:AO c.1 c.2):({ x with trusts:=x.trusts.set r t,cells:=x.cells.set j c }:VolN).Inv:=
 ⟨h.1,Nq h.2.1 ht,JL h.2.2.1 hc,h.2.2.2.1,h.2.2.2.2.1,h.2.2.2.2.2⟩
theorem IJ {x:VolN} (h:x.Inv) (a value:Int):(Ca x a value).1.Inv:=by
 unfold Ca
 split
 ·rename_i hr
  split
  ·exact h
  ·rename_i hk
   have hr':=hr
   obtain ⟨i,e,hi,hp,h0,h1,h2⟩:=Et hr
   have hm:=Cy h.1.2.2.1 (i:=i + 1) (j:=x.counts.length) (by omega) (lr _)
   have hat:a.toNat < x.cells.length:=by have:=(h.2.2.1.len h.1).1;omega
   have ht:=h.2.1.2.2 i (by rw [h.2.1.2.1];exact hi)
   have hc:=h.2.2.1.1 a.toNat hat
   have hR:=Mj h.1 hr (t:=x.trusts.getD (Am x.key x.counts a).toNat default) (by rw [e,Int.toNat_natCast];exact ht) hc hk
   exact h.put (by rw [Int.toNat_of_nonneg hr];exact hR.1) hR.2
 ·exact h
theorem MN {x:VolN} (h:x.Inv) (a value:Int):(Dx x a value).1.Inv:=by
 unfold Dx
 split
 ·exact IJ h a value
 ·exact h
theorem FG {x:VolN} (h:x.Inv) (r:Int):(AM x r).1.Inv:=by
 unfold AM
 split
 ·rename_i hf
  have hpr:Ay x.key x.counts /\ 0 <= r /\ r < x.counts.length:=by
   refine Classical.byContradiction fun hn=>?_
   unfold Ad at hf
   rw [if_neg hn] at hf
   omega
  obtain ⟨i,rfl⟩:∃ i:Nat,r = i:=⟨r.toNat,by omega⟩
  have hi:i < x.counts.length:=by omega
  have ht:=h.2.1.2.2 i (by rw [h.2.1.2.1];exact hi)
  have hcu:=h.cur i hi
  have h1:=Dl h.1.2.2.1 (k:=i) (by omega)
  have h2:=Dd x.counts hi
  have h3:=Cy h.1.2.2.1 (i:=i + 1) (j:=x.counts.length) (by omega) (lr _)
  have hat:(Ad x.key x.counts (i:Int) + (x.trusts.getD (i:Int).toNat default).cursor).toNat < x.cells.length:=by
   have:=(h.2.2.1.len h.1).1
   rw [Cs h.1 hi,Int.toNat_natCast];omega
  have hc:=h.2.2.1.1 _ hat
  have hR:=LY (t:=x.trusts.getD (i:Int).toNat default) (by rw [Int.toNat_natCast];exact ht) hc
  exact h.put (by rw [Int.toNat_natCast] at *;exact hR.1) hR.2
 ·exact h
theorem Pg (r:Int) (n:Nat) {x:VolN} (h:x.Inv):(Fp r n x).1.Inv:=by
 induction n generalizing x with
 | zero=>exact FG h r
 | succ n ih=>
   unfold Fp
   split
   ·exact ih (FG h r)
   ·exact FG h r
theorem NN {x:VolN} (h:x.Inv) (r:Int):(DR x r).1.Inv:=Pg r _ h

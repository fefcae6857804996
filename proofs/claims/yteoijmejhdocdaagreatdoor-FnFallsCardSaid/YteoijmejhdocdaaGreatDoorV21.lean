import Derived.Test.YteoijmejhdocdaaGreatDoorV20
import Derived.Test.YteoijmejhdocdaaGreatDoorV19
namespace Go.Proofs.YteoijmejhdocdaaGreatDoor.Mx
open Go.ChangeShapes Go.WideShapes Go.ChangeAt Go.RowKit
set_option linter.unusedVariables false
open Go.Lib (hid)
open Go.Proofs.Tryz
set_option maxRecDepth 20000
set_option maxHeartbeats 64000000
open Value renaming int → O, slice → ψ, bool → φ, agg → σ
open IntKind renaming i64 → U
open Ending renaming returned → τ
noncomputable def Bx (key:Int) (l:List Int) (x:Int) (t:Tru) (ct cv:Int):Tru × (Int × Int) × Int:=
 open Classical in
 if MO key l x t ct cv then
  if t.failed = true then (t,(ct,cv),2)
  else if 100000 <= t.clock \/ 1000 <= t.epoch then (t,(ct,cv),3)
  else if t.clock < ct then (⟨t.clock,t.epoch,t.cursor,t.read,t.written,t.nread,t.nwritten,true⟩,(ct,cv),4)
  else if t.cursor + 1 < l.getD x.toNat 0 then (Bo key l x t ct cv,Al key (Ad key l x + t.cursor) (t.clock + 1) (Av key (Ad key l x + t.cursor) ct cv),0)
  else ((AJ (Bo key l x t ct cv)).1,Al key (Ad key l x + t.cursor) (t.clock + 1) (Av key (Ad key l x + t.cursor) ct cv),(AJ (Bo key l x t ct cv)).2)
 else (Qd,(0,0),1)
theorem Ir (key x ct cv:Int) (A:Option Addr) (l:List Int) (cap:Nat) (t0 t1 t2 t3 t4 t5 t6:Int) (t7:Bool) (w:World) (hn:l.length <= maxLen) (hcap:l.length <= cap) (hA:Ints w U w.1.size A l):
    Calls prog 133 #[σ #[O U key,ψ A l.length cap],O U x,σ #[O U t0,O U t1,O U t2,O U t3,O U t4,O U t5,O U t6,φ t7],σ #[O U ct,O U cv]] w fun e w'=>e = τ (.tuple #[σ #[O U (Bx key l x ⟨t0,t1,t2,t3,t4,t5,t6,t7⟩ ct cv).1.clock,O U (Bx key l x ⟨t0,t1,t2,t3,t4,t5,t6,t7⟩ ct cv).1.epoch,O U (Bx key l x ⟨t0,t1,t2,t3,t4,t5,t6,t7⟩ ct cv).1.cursor,O U (Bx key l x ⟨t0,t1,t2,t3,t4,t5,t6,t7⟩ ct cv).1.read,O U (Bx key l x ⟨t0,t1,t2,t3,t4,t5,t6,t7⟩ ct cv).1.written,O U (Bx key l x ⟨t0,t1,t2,t3,t4,t5,t6,t7⟩ ct cv).1.nread,O U (Bx key l x ⟨t0,t1,t2,t3,t4,t5,t6,t7⟩ ct cv).1.nwritten,φ (Bx key l x ⟨t0,t1,t2,t3,t4,t5,t6,t7⟩ ct cv).1.failed],σ #[O U (Bx key l x ⟨t0,t1,t2,t3,t4,t5,t6,t7⟩ ct cv).2.1.1,O U (Bx key l x ⟨t0,t1,t2,t3,t4,t5,t6,t7⟩ ct cv).2.1.2],O U (Bx key l x ⟨t0,t1,t2,t3,t4,t5,t6,t7⟩ ct cv).2.2]) /\ Below w.1.size w w':=by
 unfold Bx
 by_cases h:MO key l x ⟨t0,t1,t2,t3,t4,t5,t6,t7⟩ ct cv
 ·rw [if_pos h]
  cases t7 with
  | true=>rw [if_pos rfl];exact Id key x ct cv A l cap t0 t1 t2 t3 t4 t5 t6 w hn hcap hA h.1 h.2
  | false=>
    rw [if_neg (by simp)]
    by_cases h1:100000 <= t0 \/ 1000 <= t1
    ·rw [if_pos h1];exact Iq key x ct cv A l cap t0 t1 t2 t3 t4 t5 t6 w hn hcap hA h.1 h.2 h1
    ·rw [if_neg h1]
     have a0:¬ 100000 <= t0:=fun e=>h1 (.inl e)
     have a1:¬ 1000 <= t1:=fun e=>h1 (.inr e)
     by_cases h2:t0 < ct
     ·rw [if_pos h2];exact Im key x ct cv A l cap t0 t1 t2 t3 t4 t5 t6 w hn hcap hA h.1 h.2 a0 a1 h2
     ·rw [if_neg h2]
      obtain ⟨r,rfl⟩:∃ r:Nat,x = r:=⟨x.toNat,by have:=h.1.2.1;omega⟩
      rw [Int.toNat_natCast]
      by_cases h3:t2 + 1 < l.getD r 0
      ·rw [if_pos h3];exact KU key ct cv r A l cap t0 t1 t2 t3 t4 t5 t6 w hn hcap hA h.1 h.2 a0 a1 h2 h3
      ·rw [if_neg h3];exact Kl key ct cv r A l cap t0 t1 t2 t3 t4 t5 t6 w hn hcap hA h.1 h.2 a0 a1 h2 h3
 ·rw [if_neg h];exact JX key x ct cv A l cap t0 t1 t2 t3 t4 t5 t6 t7 w hn hcap hA h
noncomputable def AM (x:VolN) (r:Int):VolN × Int:=
 open Classical in
 if 0 <= Ad x.key x.counts r then
  ({ x with trusts:=x.trusts.set r.toNat (Bx x.key x.counts r (x.trusts.getD r.toNat default) (x.cells.getD (Ad x.key x.counts r + (x.trusts.getD r.toNat default).cursor).toNat default).1 (x.cells.getD (Ad x.key x.counts r + (x.trusts.getD r.toNat default).cursor).toNat default).2).1,
            cells:=x.cells.set (Ad x.key x.counts r + (x.trusts.getD r.toNat default).cursor).toNat (Bx x.key x.counts r (x.trusts.getD r.toNat default) (x.cells.getD (Ad x.key x.counts r + (x.trusts.getD r.toNat default).cursor).toNat default).1 (x.cells.getD (Ad x.key x.counts r + (x.trusts.getD r.toNat default).cursor).toNat default).2).2.1 },
   (Bx x.key x.counts r (x.trusts.getD r.toNat default) (x.cells.getD (Ad x.key x.counts r + (x.trusts.getD r.toNat default).cursor).toNat default).1 (x.cells.getD (Ad x.key x.counts r + (x.trusts.getD r.toNat default).cursor).toNat default).2).2.2)
 else (x,1)
def Ci (b:World) (r:VolN × Int) (e:Ending) (w':World):Prop:=∃ cs,e = τ (.tuple #[σ cs,O U r.2]) /\ VolO w' b.1.size r.1 (σ cs) /\ Below b.1.size b w'
def VolN.CurOk (x:VolN):Prop:=∀ i,i < x.counts.length -> 0 <= (x.trusts.getD i default).cursor /\ (x.trusts.getD i default).cursor < x.counts.getD i 0
theorem Ni (x:VolN) (A:Option Addr) (cap:Nat) (B:Option Addr) (tc:Nat) (C:Option Addr) (cc:Nat) (b off sc:Nat) (w:World) (hx:x.Short) (hcap:x.counts.length <= cap) (hA:Ints w U w.1.size A x.counts) (hB:Trs w w.1.size B x.trusts) (hC:Cls w w.1.size C x.cells) (hbb:b < w.1.size) (h0:Bq w w.1.size b off x.s0) (h1:Bq w w.1.size b (off + 4) x.s1) (r:Int) (hr:¬ 0 <= Ad x.key x.counts r):
    Calls prog 61 #[σ #[O U x.key,ψ A x.counts.length cap,ψ B x.trusts.length tc,ψ C x.cells.length cc,ψ (some ⟨b,off,none⟩) 2 sc,O U x.count],O U r] w (Ci w (x,1)):=by
 have K0:=hid (show Kept w [(w.1.size + 1,31,#[O U 0,ψ none 0 0,ψ none 0 0,ψ none 0 0,ψ none 0 0,O U 0]),(w.1.size,31,#[O U x.key,ψ A x.counts.length cap,ψ B x.trusts.length tc,ψ C x.cells.length cc,ψ (some ⟨b,off,none⟩) 2 sc,O U x.count])] _ from (((Kept.refl w).put1 _ _ #[O U x.key,ψ A x.counts.length cap,ψ B x.trusts.length tc,ψ C x.cells.length cc,ψ (some ⟨b,off,none⟩) 2 sc,O U x.count] rfl).put1 _ _ #[O U 0,ψ none 0 0,ψ none 0 0,ψ none 0 0,ψ none 0 0,O U 0] (by simp)))
 have CO:=hid (fun (u:World) (hb:Below w.1.size w u)=>Dy x A cap B tc C cc b off sc u hx ((hA.below hb (lr _)).more hb.size) ((hB.below hb (lr _)).more hb.size) ((hC.below hb (lr _)).more hb.size) (Nat.lt_of_lt_of_le hbb hb.size) ((h0.below hb (lr _) hbb).more hb.size) ((h1.below hb (lr _) hbb).more hb.size))
 have hn:x.counts.length <= maxLen:=by have:=hx.1;unfold maxLen;omega
 have R:=hid (fun (u:World) (hb:Below w.1.size w u)=>CI x.key r A x.counts cap u hn hcap ((hA.below hb (lr _)).more hb.size))
 have hd:decide (Ad x.key x.counts r < 0) = true:=decide_eq_true (by omega)
 clear hA hB hC h0 h1 hn
 generalize Ad x.key x.counts r = f at R hd
 clear hr
 go_enter func61,ntmps61
 go_wp2_with fail
 refine (CO.out _ K0.out.1).mono ?_;rintro e u1 ⟨vv,rfl,hv,hb1⟩
 have hk1:=K0.out.below hb1
 obtain ⟨A',c',B',d',C',e',b',o',s',rfl,-⟩:=hv.reads
 have hv1:=hv.mono (show w.1.size + 1 + 1 <= _ by simp)
 have lo0:w.1.size + 1 < u1.1.size:=hk1.lt (x:=(w.1.size + 1,31,#[O U 0,ψ none 0 0,ψ none 0 0,ψ none 0 0,ψ none 0 0,O U 0])) (by simp)
 have lo1:w.1.size < u1.1.size:=hk1.lt (x:=(w.1.size,31,#[O U x.key,ψ A x.counts.length cap,ψ B x.trusts.length tc,ψ C x.cells.length cc,ψ (some ⟨b,off,none⟩) 2 sc,O U x.count])) (by simp)
 have hk2:=hk1.put1 u1.1.size 31 #[O U x.key,ψ A' x.counts.length c',ψ B' x.trusts.length d',ψ C' x.cells.length e',ψ (some ⟨b',o',none⟩) 2 s',O U x.count] rfl
 have hv2:=hv1.below ((Below.refl _ _).alloc (lr _) (.cells #[O U x.key,ψ A' x.counts.length c',ψ B' x.trusts.length d',ψ C' x.cells.length e',ψ (some ⟨b',o',none⟩) 2 s',O U x.count] 31))
 clear hb1 hk1 hv hv1 CO
 go_upto_region 2 with fail
 obtain ⟨X0,Y0,X1,Y1,X2,Y2,-⟩:=hk2.rd
 have HV:=hid hv2
 clear hv2
 go_wp2_with fail
 refine (R.out _ hk2.1).mono ?_;rintro e u2 ⟨rfl,hb2⟩
 have hk3:=hk2.below hb2
 have hv3:=HV.out.below hb2
 clear X0 Y0 X1 Y1 X2 Y2 hb2 hk2 HV
 obtain ⟨X0,Y0,X1,Y1,X2,Y2,-⟩:=hk3.rd
 have HV:=hid hv3
 clear hv3
 go_wp2_with fail
 obtain ⟨w9,e9,⟨d0,d1,d2,d3,d4,d5⟩,hb9,hg9⟩:=AN (w:=w) (x0:=O U x.key) (x1:=ψ A' x.counts.length c') (x2:=ψ B' x.trusts.length d') (x3:=ψ C' x.cells.length e') (x4:=ψ (some ⟨b',o',none⟩) 2 s') (x5:=O U x.count) (hk3.at_ (p:=w.1.size + 1) (t:=31) (cs:=#[O U 0,ψ none 0 0,ψ none 0 0,ψ none 0 0,ψ none 0 0,O U 0]) (by simp)) hk3.1 (by omega)
 rw [e9]
 exact bodyPost_ret (v:=.tuple #[σ #[O U x.key,ψ A' x.counts.length c',ψ B' x.trusts.length d',ψ C' x.cells.length e',ψ (some ⟨b',o',none⟩) 2 s',O U x.count],O U 1]) (by simp [results,results61,go_sem,d0,d1,d2,d3,d4,d5]) rfl ⟨_,rfl,(HV.out.out hg9 (by omega)).mono (by omega),hb9⟩
theorem Nw (x:VolN) (A:Option Addr) (cap:Nat) (B:Option Addr) (tc:Nat) (C:Option Addr) (cc:Nat) (b off sc:Nat) (w:World) (hx:x.Short) (hcap:x.counts.length <= cap) (hA:Ints w U w.1.size A x.counts) (hB:Trs w w.1.size B x.trusts) (hC:Cls w w.1.size C x.cells) (hbb:b < w.1.size) (h0:Bq w w.1.size b off x.s0) (h1:Bq w w.1.size b (off + 4) x.s1) (hfit:x.Fit) (hcur:x.CurOk) (r:Int) (hr:0 <= Ad x.key x.counts r):
    Calls prog 61 #[σ #[O U x.key,ψ A x.counts.length cap,ψ B x.trusts.length tc,ψ C x.cells.length cc,ψ (some ⟨b,off,none⟩) 2 sc,O U x.count],O U r] w (Ci w (AM x r)):=by
 have hpr:Ay x.key x.counts /\ 0 <= r /\ r < x.counts.length:=by
  refine Classical.byContradiction fun h=>?_
  unfold Ad at hr
  rw [if_neg h] at hr
  omega
 obtain ⟨i,rfl⟩:∃ i:Nat,r = i:=⟨r.toNat,by omega⟩
 have hp:=hpr.1
 have hi:i < x.counts.length:=by omega
 have hi':i < x.trusts.length:=by rw [hfit.1];exact hi
 have er:=Cs hp hi
 have hup:=Cy hp.2.2.1 (i:=i + 1) (j:=x.counts.length) (by omega) (lr _)
 have hub:=Dl hp.2.2.1 (k:=i) (by omega)
 have hus:=Dd x.counts hi
 have huc:=hcur i hi
 have hu4:=hp.2.2.2
 unfold AM
 rw [if_pos hr]
 simp only [er,Int.toNat_natCast]
 have R0:=fun (u:World) (hb:Below w.1.size w u)=>CI x.key (i:Int) A x.counts cap u (by have:=hx.1;unfold maxLen;omega) hcap ((hA.below hb (lr _)).more hb.size)
 rw [er] at R0
 generalize hf:upTo x.counts i = f at R0 hub hus |-
 obtain ⟨j,hjj⟩:∃ j:Nat,f + (x.trusts.getD i default).cursor = j:=⟨(f + (x.trusts.getD i default).cursor).toNat,by omega⟩
 have hj:j < x.cells.length:=by have:=hfit.2;omega
 have hat:IntKind.i64.wrap (f + (x.trusts.getD i default).cursor) = (j:Int):=by rw [hjj];exact IntWalk.i64_in _ (by omega)
 simp only [hjj,Int.toNat_natCast]
 obtain ⟨bT,oT,rfl,hbT,hcT⟩:=hB.at_ hi'
 obtain ⟨bC,oC,rfl,hbC,hcC⟩:=hC.at_ hj
 have K0:=hid (show Kept w [(w.1.size + 1,31,#[O U 0,ψ none 0 0,ψ none 0 0,ψ none 0 0,ψ none 0 0,O U 0]),(w.1.size,31,#[O U x.key,ψ A x.counts.length cap,ψ (some ⟨bT,oT,none⟩) x.trusts.length tc,ψ (some ⟨bC,oC,none⟩) x.cells.length cc,ψ (some ⟨b,off,none⟩) 2 sc,O U x.count])] _ from (((Kept.refl w).put1 _ _ #[O U x.key,ψ A x.counts.length cap,ψ (some ⟨bT,oT,none⟩) x.trusts.length tc,ψ (some ⟨bC,oC,none⟩) x.cells.length cc,ψ (some ⟨b,off,none⟩) 2 sc,O U x.count] rfl).put1 _ _ #[O U 0,ψ none 0 0,ψ none 0 0,ψ none 0 0,ψ none 0 0,O U 0] (by simp)))
 have CO:=hid (fun (u:World) (hb:Below w.1.size w u)=>Dy x A cap _ tc _ cc b off sc u hx ((hA.below hb (lr _)).more hb.size) ((hB.below hb (lr _)).more hb.size) ((hC.below hb (lr _)).more hb.size) (Nat.lt_of_lt_of_le hbb hb.size) ((h0.below hb (lr _) hbb).more hb.size) ((h1.below hb (lr _) hbb).more hb.size))
 have hn:x.counts.length <= maxLen:=by have:=hx.1;unfold maxLen;omega
 have R:=hid R0
 have hd:decide (f < 0) = false:=decide_eq_false (by omega)
 have T0:=fun (u:World) (hb:Below w.1.size w u)=>Ir x.key (i:Int) (x.cells.getD j default).1 (x.cells.getD j default).2 A x.counts cap (x.trusts.getD i default).clock (x.trusts.getD i default).epoch (x.trusts.getD i default).cursor (x.trusts.getD i default).read (x.trusts.getD i default).written (x.trusts.getD i default).nread (x.trusts.getD i default).nwritten (x.trusts.getD i default).failed u hn hcap ((hA.below hb (lr _)).more hb.size)
 rw [show (⟨(x.trusts.getD i default).clock,(x.trusts.getD i default).epoch,(x.trusts.getD i default).cursor,(x.trusts.getD i default).read,(x.trusts.getD i default).written,(x.trusts.getD i default).nread,(x.trusts.getD i default).nwritten,(x.trusts.getD i default).failed⟩:Tru) = (x.trusts.getD i default) from rfl] at T0
 generalize Bx x.key x.counts (i:Int) (x.trusts.getD i default) (x.cells.getD j default).1 (x.cells.getD j default).2 = P at T0 |-
 obtain ⟨nt,nc,ns⟩:=P
 simp only [] at T0 |-
 clear hjj huc hcur
 generalize (x.trusts.getD i default) = tt at hcT T0 hat
 generalize (x.cells.getD j default) = ct at hcC T0
 have T:=hid T0
 have hlt1:(i:Int) < x.trusts.length:=by omega
 have hlt2:(j:Int) < x.cells.length:=by omega
 have hi0:(0:Int) <= i:=by omega
 have hj0:(0:Int) <= j:=by omega
 have hsx:=hx.2.1
 have hsy:=hx.2.2.1
 clear hA hB hC h0 h1 hn R0 T0 er hi hup hub hus hu4 hp hpr hr hfit hf
 have HcT:=hid hcT
 have HcC:=hid hcC
 clear hcT hcC
 go_enter func61,ntmps61
 go_wp2_with fail
 refine (CO.out _ K0.out.1).mono ?_;rintro e u1 ⟨vv,rfl,hv,hb1⟩
 have hk1:=K0.out.below hb1
 obtain ⟨A',c',B',d',C',e',b',o',s',rfl,-⟩:=hv.reads
 obtain ⟨gt,rfl,hgt0,hgt1,-⟩:=hv.trustsGet (by omega)
 obtain ⟨gc,rfl,hgc0,hgc1,-⟩:=hv.cellsGet (by omega)
 have hsz:w.1.size + 1 + 1 <= ((w.alloc (.cells #[O U x.key,ψ A x.counts.length cap,ψ (some ⟨bT,oT,none⟩) x.trusts.length tc,ψ (some ⟨bC,oC,none⟩) x.cells.length cc,ψ (some ⟨b,off,none⟩) 2 sc,O U x.count] 31)).alloc (.cells #[O U 0,ψ none 0 0,ψ none 0 0,ψ none 0 0,ψ none 0 0,O U 0] 31)).1.size:=by simp
 have hv1:=hv.mono hsz
 have hgt2:w.1.size + 1 + 1 <= gt:=Nat.le_trans hsz hgt0
 have hgc2:w.1.size + 1 + 1 <= gc:=Nat.le_trans hsz hgc0
 clear hgt0 hgc0 hsz
 have lo0:w.1.size + 1 < u1.1.size:=hk1.lt (x:=(w.1.size + 1,31,#[O U 0,ψ none 0 0,ψ none 0 0,ψ none 0 0,ψ none 0 0,O U 0])) (by simp)
 have lo1:w.1.size < u1.1.size:=hk1.lt (x:=(w.1.size,31,#[O U x.key,ψ A x.counts.length cap,ψ (some ⟨bT,oT,none⟩) x.trusts.length tc,ψ (some ⟨bC,oC,none⟩) x.cells.length cc,ψ (some ⟨b,off,none⟩) 2 sc,O U x.count])) (by simp)
 have hk2:=hk1.put1 u1.1.size 31 #[O U x.key,ψ A' x.counts.length c',ψ (some ⟨gt,0,none⟩) x.trusts.length d',ψ (some ⟨gc,0,none⟩) x.cells.length e',ψ (some ⟨b',o',none⟩) 2 s',O U x.count] rfl
 have hv2:=hv1.below ((Below.refl _ _).alloc (lr _) (.cells #[O U x.key,ψ A' x.counts.length c',ψ (some ⟨gt,0,none⟩) x.trusts.length d',ψ (some ⟨gc,0,none⟩) x.cells.length e',ψ (some ⟨b',o',none⟩) 2 s',O U x.count] 31))
 clear hb1 hk1 hv hv1 CO
 go_upto_region 2 with fail
 obtain ⟨X0,Y0,X1,Y1,X2,Y2,-⟩:=hk2.rd
 have HV:=hid hv2
 clear hv2
 go_wp2_with fail
 refine (R.out _ hk2.1).mono ?_;rintro e u2 ⟨rfl,hb2⟩
 have hk3:=hk2.below hb2
 have hv3:=HV.out.below hb2
 have lu2:u1.1.size < u2.1.size:=hk3.lt (x:=(u1.1.size,31,#[O U x.key,ψ A' x.counts.length c',ψ (some ⟨gt,0,none⟩) x.trusts.length d',ψ (some ⟨gc,0,none⟩) x.cells.length e',ψ (some ⟨b',o',none⟩) 2 s',O U x.count])) (by simp)
 clear X0 Y0 X1 Y1 X2 Y2 hb2 hk2 HV R
 obtain ⟨X0,Y0,X1,Y1,X2,Y2,-⟩:=hk3.rd
 have HV:=hid hv3
 clear hv3
 obtain ⟨tc0,tc1,tc2,tc3,tc4,tc5,tc6,tc7⟩:=HcT.out.below hk3.1 hbT
 go_upto_region 6 with fail
 clear X0 Y0 X1 Y1 X2 Y2 tc0 tc1 tc2 tc3 tc4 tc5 tc6 tc7
 refine Ao [false,false,false,false,false,false,false,false,false,false,false,false,false,true,false,false,false,false,true,true,true,true,false] (ShM [(13,.tuple #[σ #[O U nt.clock,O U nt.epoch,O U nt.cursor,O U nt.read,O U nt.written,O U nt.nread,O U nt.nwritten,φ nt.failed],σ #[O U nc.1,O U nc.2],O U ns])] [18,19]) (fun D γ u=>DL u2 (u2.1.size) [] [] [(18,20,94,#[O U nt.clock,O U nt.epoch,O U nt.cursor,O U nt.read,O U nt.written,O U nt.nread,O U nt.nwritten,φ nt.failed]),(19,21,118,#[O U nc.1,O U nc.2])] D γ u) (by kernel_rfl) (by kernel_rfl) (fun γ=>by kernel_rfl) (fun D γ γ' w ha h=>h.loc ha) (ShM.inh _ _) (fun γ=>DL.start (ResC.start (Kept.refl _) (fun x hx=>by cases hx)) (lr _) (lr _) (fun x hx=>by cases hx) (fun x hx=>by cases hx)) (fun γ hγ=>?_)
 have g13:γ 13 = .tuple #[σ #[O U nt.clock,O U nt.epoch,O U nt.cursor,O U nt.read,O U nt.written,O U nt.nread,O U nt.nwritten,φ nt.failed],σ #[O U nc.1,O U nc.2],O U ns]:=hγ 13 rfl
 have g20:γ 20 = undef:=hγ 20 rfl
 obtain ⟨gT,g18⟩:∃ g:Nat,γ 18 = .pointer (some ⟨g,0,none⟩):=hγ 18 rfl
 have g21:γ 21 = undef:=hγ 21 rfl
 obtain ⟨gC,g19⟩:∃ g:Nat,γ 19 = .pointer (some ⟨g,0,none⟩):=hγ 19 rfl
 apply Exists.intro
 refine ⟨fun D=>?_,?_,?_⟩
 ·simp only [AP,cond_true,cond_false,Nat.reduceAdd,g13,g20,g18,g21,g19]
  iterate 23 (first
   | go_big_quiet_skip
   | (go_big_quiet_want
      go_big_quiet_op
      first
       | go_big_quiet_on
       | (apply Exists.intro
          refine ⟨fun u hu=>?_,?_⟩
          ·first
             | with_reducible rfl
             | (have hk9:=hk3.below hu.1.1.1;obtain ⟨X0,Y0,X1,Y1,X2,Y2,-⟩:=hk9.rd;obtain ⟨tc0,tc1,tc2,tc3,tc4,tc5,tc6,tc7⟩:=HcT.out.below hk9.1 hbT;obtain ⟨cc0,cc1⟩:=HcC.out.below hk9.1 hbC;go_simp;first | done | with_reducible rfl)
          go_big_quiet_on)))
  exact wpQuiet_nil rfl
 ·simp only [AY,Nat.reduceAdd]
  refine ⟨fun D u hD hd hu=>?_,fun D u hD hd hu=>?_,fun D u hD hd hu=>?_,fun D u hD hd hu=>?_,fun D u hD hd hu=>?_,trivial⟩
  ·have hb:=hu.1.1.1
   exact As ((T.out u (hk3.below hb).1).mono fun e w' ⟨he,hb⟩=>⟨_,he,rfl,hu.below hb 13 _ (by simp)⟩) rfl rfl rfl rfl (by kernel_rfl)
  ·exact DJ (cs:=#[O U 0,O U 0,O U 0,O U 0,O U 0,O U 0,O U 0,φ false]) rfl (by kernel_rfl) ⟨⟨_,rfl⟩,hu.made (j:=20) (t:=94) (V:=#[O U nt.clock,O U nt.epoch,O U nt.cursor,O U nt.read,O U nt.written,O U nt.nread,O U nt.nwritten,φ nt.failed]) (by simp) (by simp) (by simp) hD (by decide) rfl⟩
  ·exact DJ (cs:=#[O U 0,O U 0]) rfl (by kernel_rfl) ⟨⟨_,rfl⟩,hu.made (j:=21) (t:=118) (V:=#[O U nc.1,O U nc.2]) (by simp) (by simp) (by simp) hD (by decide) rfl⟩
  ·have dk:=hd { on:=18,ground:=Ground.data } (by simp) rfl rfl
   obtain ⟨g0,e1,z,hz,hzs⟩:=hu.box (k:=18) (j:=20) (t:=94) (V:=#[O U nt.clock,O U nt.epoch,O U nt.cursor,O U nt.read,O U nt.written,O U nt.nread,O U nt.nwritten,φ nt.failed]) (by simp) dk
   obtain rfl:gT = g0:=by rw [g18] at e1;simpa using e1
   exact AI hz rfl rfl rfl (by kernel_rfl) hzs (by simp [Value.oneCell']) (fun w' hc hg=>⟨rfl,hu.filled (k:=18) (t:=94) (V:=#[O U nt.clock,O U nt.epoch,O U nt.cursor,O U nt.read,O U nt.written,O U nt.nread,O U nt.nwritten,φ nt.failed]) (by simp) dk (by simp) (by simp) (by decide) e1 hg hc _⟩)
  ·have dk:=hd { on:=19,ground:=Ground.data } (by simp) rfl rfl
   obtain ⟨g0,e1,z,hz,hzs⟩:=hu.box (k:=19) (j:=21) (t:=118) (V:=#[O U nc.1,O U nc.2]) (by simp) dk
   obtain rfl:gC = g0:=by rw [g19] at e1;simpa using e1
   exact AI hz rfl rfl rfl (by kernel_rfl) hzs (by simp [Value.oneCell']) (fun w' hc hg=>⟨rfl,hu.filled (k:=19) (t:=118) (V:=#[O U nc.1,O U nc.2]) (by simp) dk (by simp) (by simp) (by decide) e1 hg hc _⟩)
 ·intro D uf hD hu
  have hb3:=hu.1.1.1
  have hf:=hk3.below hb3
  obtain ⟨g0,e1,hge18,hgc18⟩:=hu.doneM (k:=18) (j:=20) (t:=94) (V:=#[O U nt.clock,O U nt.epoch,O U nt.cursor,O U nt.read,O U nt.written,O U nt.nread,O U nt.nwritten,φ nt.failed]) (by simp) (hD 18 (by simp) rfl) (hD 20 (by simp) rfl)
  obtain rfl:gT = g0:=by rw [g18] at e1;simpa using e1
  clear e1
  have hfz1:=hf.more (Nat.le_trans hk3.1.size hge18) hgc18
  obtain ⟨g0,e1,hge19,hgc19⟩:=hu.doneM (k:=19) (j:=21) (t:=118) (V:=#[O U nc.1,O U nc.2]) (by simp) (hD 19 (by simp) rfl) (hD 21 (by simp) rfl)
  obtain rfl:gC = g0:=by rw [g19] at e1;simpa using e1
  clear e1
  have hfz2:=hfz1.more (Nat.le_trans hk3.1.size hge19) hgc19
  have hne18_19:gT ≠ gC:=fun e=>hu.2.2.2.2.2.2.1 _ (show (18,20,94,#[O U nt.clock,O U nt.epoch,O U nt.cursor,O U nt.read,O U nt.written,O U nt.nread,O U nt.nwritten,φ nt.failed]) ∈ ([(18,20,94,#[O U nt.clock,O U nt.epoch,O U nt.cursor,O U nt.read,O U nt.written,O U nt.nread,O U nt.nwritten,φ nt.failed]),(19,21,118,#[O U nc.1,O U nc.2])]:List Made) by simp) _ (show (19,21,118,#[O U nc.1,O U nc.2]) ∈ ([(18,20,94,#[O U nt.clock,O U nt.epoch,O U nt.cursor,O U nt.read,O U nt.written,O U nt.nread,O U nt.nwritten,φ nt.failed]),(19,21,118,#[O U nc.1,O U nc.2])]:List Made) by simp) (nq rfl) (hD 18 (by simp) rfl) (hD 19 (by simp) rfl) (by rw [g18,g19,e])
  clear hu hD
  obtain ⟨X0,Y0,X1,Y1,X2,Y2,X3,Y3,X4,Y4,-⟩:=hfz2.rd
  have hvf:=HV.out.below hb3
  clear HV
  obtain ⟨g1,e1,-,-,hrow,hset⟩:=hvf.trustsGet (by omega)
  injection e1 with e1;injection e1 with e1;subst e1
  have hfz:=Dw hrow
  obtain ⟨p0,p1,p2,p3,p4,p5,p6,p7⟩:=hrow.here hi'
  have HR:=hid hrow
  have HS:=hid hset
  clear hrow hset hvf
  go_upto_region 8 with fail
  have hr5:=HR.out.set_ hi' nt
  have hg5:=Ai (Ai (Ai (Ai (Ai (Ai (Ai (Ai (Aj uf (some gt)) (i * 8) (O U nt.clock)) (i * 8 + 1) (O U nt.epoch)) (i * 8 + 2) (O U nt.cursor)) (i * 8 + 3) (O U nt.read)) (i * 8 + 4) (O U nt.written)) (i * 8 + 5) (O U nt.nread)) (i * 8 + 6) (O U nt.nwritten)) (i * 8 + 7) (φ nt.failed)
  generalize World.setCell _ _ _ = w5 at hr5 hg5 |-
  have hk5:=hfz2.grownO hg5 (fun k e=>⟨by injection e;omega,fun y hy=>by simp at hy;injection e;rcases hy with rfl | rfl | rfl | rfl | rfl <;> (simp only [];omega)⟩)
  have hv5:=HS.out w5 (x.trusts.set i nt) (by simp) hg5 (by rw [List.length_set];exact hr5)
  clear hr5 hg5 HR HS hfz p0 p1 p2 p3 p4 p5 p6 p7 hfz2 X0 Y0 X1 Y1 X2 Y2 X3 Y3 X4 Y4
  obtain ⟨X0,Y0,X1,Y1,X2,Y2,X3,Y3,X4,Y4,-⟩:=hk5.rd
  obtain ⟨g1,e1,-,-,hrow,hset⟩:=hv5.cellsGet (by simp only [];omega)
  injection e1 with e1;injection e1 with e1;subst e1
  have hfz:=Dw hrow
  obtain ⟨p0,p1⟩:=hrow.here hj
  have HR:=hid hrow
  have HS:=hid hset
  clear hrow hset hv5
  go_upto_region 9 with fail
  have hr6:=HR.out.set_ hj nc
  have hg6:=Ai (Ai (Aj w5 (some gc)) (j * 2) (O U nc.1)) (j * 2 + 1) (O U nc.2)
  generalize World.setCell _ _ _ = w6 at hr6 hg6 |-
  have hk6:=hk5.grownO hg6 (fun k e=>⟨by injection e;omega,fun y hy=>by simp at hy;injection e;rcases hy with rfl | rfl | rfl | rfl | rfl <;> (simp only [];omega)⟩)
  have hv6:=HS.out w6 (x.cells.set j nc) (by simp) hg6 (by rw [List.length_set];exact hr6)
  clear hr6 hg6 HR HS hfz p0 p1 hk5 X0 Y0 X1 Y1 X2 Y2 X3 Y3 X4 Y4
  obtain ⟨X0,Y0,X1,Y1,X2,Y2,X3,Y3,X4,Y4,-⟩:=hk6.rd
  have HV:=hid hv6
  clear hv6
  go_wp2_with fail
  obtain ⟨w9,e9,⟨d0,d1,d2,d3,d4,d5⟩,hb9,hg9⟩:=AN (w:=w) (x0:=O U x.key) (x1:=ψ A' x.counts.length c') (x2:=ψ (some ⟨gt,0,none⟩) x.trusts.length d') (x3:=ψ (some ⟨gc,0,none⟩) x.cells.length e') (x4:=ψ (some ⟨b',o',none⟩) 2 s') (x5:=O U x.count) (hk6.at_ (p:=w.1.size + 1) (t:=31) (cs:=#[O U 0,ψ none 0 0,ψ none 0 0,ψ none 0 0,ψ none 0 0,O U 0]) (by simp)) hk6.1 (by omega)
  rw [e9]
  exact bodyPost_ret (v:=.tuple #[σ #[O U x.key,ψ A' x.counts.length c',ψ (some ⟨gt,0,none⟩) x.trusts.length d',ψ (some ⟨gc,0,none⟩) x.cells.length e',ψ (some ⟨b',o',none⟩) 2 s',O U x.count],O U ns]) (by simp [results,results61,go_sem,d0,d1,d2,d3,d4,d5]) rfl ⟨_,rfl,(HV.out.out hg9 (by omega)).mono (by omega),hb9⟩
theorem Hr (x:VolN) (A:Option Addr) (cap:Nat) (B:Option Addr) (tc:Nat) (C:Option Addr) (cc:Nat) (b off sc:Nat) (w:World) (hx:x.Short) (hcap:x.counts.length <= cap) (hA:Ints w U w.1.size A x.counts) (hB:Trs w w.1.size B x.trusts) (hC:Cls w w.1.size C x.cells) (hbb:b < w.1.size) (h0:Bq w w.1.size b off x.s0) (h1:Bq w w.1.size b (off + 4) x.s1) (hfit:x.Fit) (hcur:x.CurOk) (r:Int):
    Calls prog 61 #[σ #[O U x.key,ψ A x.counts.length cap,ψ B x.trusts.length tc,ψ C x.cells.length cc,ψ (some ⟨b,off,none⟩) 2 sc,O U x.count],O U r] w (Ci w (AM x r)):=by
 by_cases hr:0 <= Ad x.key x.counts r
 ·exact Nw x A cap B tc C cc b off sc w hx hcap hA hB hC hbb h0 h1 hfit hcur r hr
 ·have e:AM x r = (x,1):=by unfold AM;rw [if_neg hr]
  rw [e]
  exact Ni x A cap B tc C cc b off sc w hx hcap hA hB hC hbb h0 h1 r hr
theorem JH (t:Tru):(AJ t).1.cursor = 0:=by unfold AJ;split <;> rfl
theorem JE (t:Tru):(AJ t).2 = 5 \/ (AJ t).2 = 4:=by unfold AJ;split <;> simp
theorem GK (key:Int) (l:List Int) (x:Int) (t:Tru) (ct cv:Int):
    ((Bx key l x t ct cv).2.2 = 0 /\ t.cursor + 1 < l.getD x.toNat 0 /\ (Bx key l x t ct cv).1.cursor = t.cursor + 1) \/
    ((Bx key l x t ct cv).2.2 ≠ 0 /\ ((Bx key l x t ct cv).1.cursor = t.cursor \/ (Bx key l x t ct cv).1.cursor = 0)):=by
 unfold Bx
 split
 ·split
  ·exact .inr ⟨by simp,.inl rfl⟩
  ·split
   ·exact .inr ⟨by simp,.inl rfl⟩
   ·split
    ·exact .inr ⟨by simp,.inl rfl⟩
    ·split
     ·rename_i h
      exact .inl ⟨rfl,h,rfl⟩
     ·refine .inr ⟨?_,.inr (JH _)⟩
      rcases JE (Bo key l x t ct cv) with e | e <;> simp only [e] <;> decide
 ·exact .inr ⟨by simp,.inr rfl⟩
theorem FH (x:VolN) (r:Int):(AM x r).1.key = x.key /\ (AM x r).1.counts = x.counts /\ (AM x r).1.trusts.length = x.trusts.length /\ (AM x r).1.cells.length = x.cells.length /\ (AM x r).1.s0 = x.s0 /\ (AM x r).1.s1 = x.s1 /\ (AM x r).1.count = x.count:=by
 unfold AM
 split <;> simp
theorem Mf {x:VolN} (h:x.Short) (r:Int):(AM x r).1.Short:=by
 obtain ⟨e1,e2,e3,e4,e5,e6,e7⟩:=FH x r
 unfold VolN.Short at *
 rw [e2,e3,e4,e5,e6];exact h
theorem Ol {x:VolN} (h:x.Fit) (r:Int):(AM x r).1.Fit:=by
 obtain ⟨e1,e2,e3,e4,e5,e6,e7⟩:=FH x r
 unfold VolN.Fit at *
 rw [e2,e3,e4];exact h
theorem He {α:Type} (L:List α) (k i:Nat) (v d:α):(L.set k v).getD i d = if k = i /\ k < L.length then v else L.getD i d:=by
 rw [List.getD_eq_getElem?_getD,List.getD_eq_getElem?_getD,List.getElem?_set]
 by_cases h:k = i
 ·subst h
  by_cases h2:k < L.length
  ·simp [h2]
  ·simp [h2]
 ·simp [h]
theorem Ov {x:VolN} (h:x.CurOk) (r:Int):(AM x r).1.CurOk:=by
 intro i hi
 rw [(FH x r).2.1] at hi |-
 have h0:=h i hi
 unfold AM
 split
 ·rename_i hf
  have hpr:Ay x.key x.counts /\ 0 <= r /\ r < x.counts.length:=by
   refine Classical.byContradiction fun hn=>?_
   unfold Ad at hf
   rw [if_neg hn] at hf
   omega
  simp only []
  rw [He]
  split
  ·rename_i hk
   obtain ⟨rfl,hk⟩:=hk
   rcases GK x.key x.counts r (x.trusts.getD r.toNat default) (x.cells.getD (Ad x.key x.counts r + (x.trusts.getD r.toNat default).cursor).toNat default).1 (x.cells.getD (Ad x.key x.counts r + (x.trusts.getD r.toNat default).cursor).toNat default).2 with ⟨_,e2,e3⟩ | ⟨_,e3 | e3⟩ <;> rw [e3] <;> omega
  ·exact h0
 ·exact h0
theorem NB {x:VolN} {r:Int} (hfit:x.Fit) (h:(AM x r).2 = 0):
    (x.trusts.getD r.toNat default).cursor + 1 < x.counts.getD r.toNat 0 /\ ((AM x r).1.trusts.getD r.toNat default).cursor = (x.trusts.getD r.toNat default).cursor + 1:=by
 unfold AM at h |-
 split at h
 ·rename_i hf
  rw [if_pos hf]
  have hpr:Ay x.key x.counts /\ 0 <= r /\ r < x.counts.length:=by
   refine Classical.byContradiction fun hn=>?_
   unfold Ad at hf
   rw [if_neg hn] at hf
   omega
  simp only [] at h |-
  rw [He,if_pos ⟨rfl,by rw [hfit.1];omega⟩]
  rcases GK x.key x.counts r (x.trusts.getD r.toNat default) (x.cells.getD (Ad x.key x.counts r + (x.trusts.getD r.toNat default).cursor).toNat default).1 (x.cells.getD (Ad x.key x.counts r + (x.trusts.getD r.toNat default).cursor).toNat default).2 with ⟨_,e2,e3⟩ | ⟨e1,_⟩
  ·exact ⟨e2,e3⟩
  ·exact absurd h e1
 ·simp at h
noncomputable def Fp (r:Int):Nat -> VolN -> VolN × Int
 | 0,y=>AM y r
 | n + 1,y=>if (AM y r).2 = 0 then Fp r n (AM y r).1 else AM y r
noncomputable def DR (x:VolN) (r:Int):VolN × Int:=Fp r (x.counts.getD r.toNat 0 - (x.trusts.getD r.toNat default).cursor).toNat x
theorem MG {r:Int} {n:Nat} {y:VolN} (h:(AM y r).2 = 0):Fp r (n + 1) y = Fp r n (AM y r).1:=by rw [Fp,if_pos h]
theorem Lr {r:Int} {n:Nat} {y:VolN} (h:(AM y r).2 ≠ 0):Fp r n y = AM y r:=by
 cases n with
 | zero=>rfl
 | succ n=>rw [Fp,if_neg h]

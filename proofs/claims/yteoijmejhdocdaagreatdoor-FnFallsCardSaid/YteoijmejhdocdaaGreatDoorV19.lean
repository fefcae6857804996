import Derived.Test.YteoijmejhdocdaaGreatDoorV16
import Derived.Test.YteoijmejhdocdaaGreatDoorV18
namespace Go.Proofs.YteoijmejhdocdaaGreatDoor.Mx
open Go.ChangeShapes Go.WideShapes Go.ChangeAt Go.RowKit
set_option linter.unusedVariables false
open Go.Lib (hid)
open Go.Proofs.Tryz
set_option maxRecDepth 20000
set_option maxHeartbeats 64000000
open Value renaming int → O, slice → ψ, bool → φ, agg → σ
open IntKind renaming i64 → U
open Ending renaming returned → τ
noncomputable def BM (key:Int) (l:List Int) (t:Tru) (x ct cv value:Int):Tru × (Int × Int) × Int × Int:=
 open Classical in
 if Ko key l t x ct cv value then
  if t.failed = true then (t,(ct,cv),0,2)
  else if 100000 <= t.clock then (t,(ct,cv),0,3)
  else if t.clock < ct then (⟨t.clock,t.epoch,t.cursor,t.read,t.written,t.nread,t.nwritten,true⟩,(ct,cv),0,4)
  else (Cu key ⟨t.clock + 1,t.epoch,t.cursor,t.read,t.written,t.nread,t.nwritten,false⟩ (DC key l t.cursor x) (Ag x ct cv).1 (Ag x ct cv).2.1 (Ag x ct cv).2.2
      (Ag x (Al key x (t.clock + 1) (if value = -1 then Av key x ct cv else value)).1 (Al key x (t.clock + 1) (if value = -1 then Av key x ct cv else value)).2).1
      (Ag x (Al key x (t.clock + 1) (if value = -1 then Av key x ct cv else value)).1 (Al key x (t.clock + 1) (if value = -1 then Av key x ct cv else value)).2).2.1
      (Ag x (Al key x (t.clock + 1) (if value = -1 then Av key x ct cv else value)).1 (Al key x (t.clock + 1) (if value = -1 then Av key x ct cv else value)).2).2.2,
   Al key x (t.clock + 1) (if value = -1 then Av key x ct cv else value),Av key x ct cv,0)
 else (Qd,(0,0),0,1)
theorem IK (key x ct cv value:Int) (A:Option Addr) (l:List Int) (cap:Nat) (t0 t1 t2 t3 t4 t5 t6:Int) (t7:Bool) (w:World) (hn:l.length <= maxLen) (hcap:l.length <= cap) (hA:Ints w U w.1.size A l) (hxx:I64 x):
    Calls prog 129 #[σ #[O U key,ψ A l.length cap],σ #[O U t0,O U t1,O U t2,O U t3,O U t4,O U t5,O U t6,φ t7],O U x,σ #[O U ct,O U cv],O U value] w fun e w'=>e = τ (.tuple #[σ #[O U (BM key l ⟨t0,t1,t2,t3,t4,t5,t6,t7⟩ x ct cv value).1.clock,O U (BM key l ⟨t0,t1,t2,t3,t4,t5,t6,t7⟩ x ct cv value).1.epoch,O U (BM key l ⟨t0,t1,t2,t3,t4,t5,t6,t7⟩ x ct cv value).1.cursor,O U (BM key l ⟨t0,t1,t2,t3,t4,t5,t6,t7⟩ x ct cv value).1.read,O U (BM key l ⟨t0,t1,t2,t3,t4,t5,t6,t7⟩ x ct cv value).1.written,O U (BM key l ⟨t0,t1,t2,t3,t4,t5,t6,t7⟩ x ct cv value).1.nread,O U (BM key l ⟨t0,t1,t2,t3,t4,t5,t6,t7⟩ x ct cv value).1.nwritten,φ (BM key l ⟨t0,t1,t2,t3,t4,t5,t6,t7⟩ x ct cv value).1.failed],σ #[O U (BM key l ⟨t0,t1,t2,t3,t4,t5,t6,t7⟩ x ct cv value).2.1.1,O U (BM key l ⟨t0,t1,t2,t3,t4,t5,t6,t7⟩ x ct cv value).2.1.2],O U (BM key l ⟨t0,t1,t2,t3,t4,t5,t6,t7⟩ x ct cv value).2.2.1,O U (BM key l ⟨t0,t1,t2,t3,t4,t5,t6,t7⟩ x ct cv value).2.2.2]) /\ Below w.1.size w w':=by
 unfold BM
 by_cases h:Ko key l ⟨t0,t1,t2,t3,t4,t5,t6,t7⟩ x ct cv value
 ·rw [if_pos h]
  cases t7 with
  | true=>rw [if_pos rfl];exact Ih key x ct cv value A l cap t0 t1 t2 t3 t4 t5 t6 w hn hcap hA h.1 h.2.1 h.2.2.1 h.2.2.2
  | false=>
    rw [if_neg (by simp)]
    by_cases h1:100000 <= t0
    ·rw [if_pos h1];exact Iw key x ct cv value A l cap t0 t1 t2 t3 t4 t5 t6 w hn hcap hA h.1 h.2.1 h.2.2.1 h.2.2.2 h1
    ·rw [if_neg h1]
     by_cases h2:t0 < ct
     ·rw [if_pos h2];exact If key x ct cv value A l cap t0 t1 t2 t3 t4 t5 t6 w hn hcap hA h.1 h.2.1 h.2.2.1 h.2.2.2 h1 h2
     ·rw [if_neg h2];exact Lg key x ct cv value A l cap t0 t1 t2 t3 t4 t5 t6 w hn hcap hA h.1 h.2.1 h.2.2.1 h.2.2.2 h1 h2 hxx _ rfl
 ·rw [if_neg h];exact JZ key x ct cv value A l cap t0 t1 t2 t3 t4 t5 t6 t7 w hn hcap hA h
noncomputable def Ca (x:VolN) (a value:Int):VolN × Int × Int:=
 open Classical in
 if 0 <= Am x.key x.counts a then
  if (BM x.key x.counts (x.trusts.getD (Am x.key x.counts a).toNat default) a (x.cells.getD a.toNat default).1 (x.cells.getD a.toNat default).2 value).2.2.2 = 1 then (x,0,1)
  else ({ x with trusts:=x.trusts.set (Am x.key x.counts a).toNat (BM x.key x.counts (x.trusts.getD (Am x.key x.counts a).toNat default) a (x.cells.getD a.toNat default).1 (x.cells.getD a.toNat default).2 value).1,
                 cells:=x.cells.set a.toNat (BM x.key x.counts (x.trusts.getD (Am x.key x.counts a).toNat default) a (x.cells.getD a.toNat default).1 (x.cells.getD a.toNat default).2 value).2.1 },
   (BM x.key x.counts (x.trusts.getD (Am x.key x.counts a).toNat default) a (x.cells.getD a.toNat default).1 (x.cells.getD a.toNat default).2 value).2.2.1,
   (BM x.key x.counts (x.trusts.getD (Am x.key x.counts a).toNat default) a (x.cells.getD a.toNat default).1 (x.cells.getD a.toNat default).2 value).2.2.2)
 else (x,0,1)
def Jh (b:World) (r:VolN × Int × Int) (e:Ending) (w':World):Prop:=∃ cs,e = τ (.tuple #[σ cs,O U r.2.1,O U r.2.2]) /\ VolO w' b.1.size r.1 (σ cs) /\ Below b.1.size b w'
def VolN.Fit (x:VolN):Prop:=x.trusts.length = x.counts.length /\ (x.cells.length:Int) = upTo x.counts x.counts.length
theorem AN {w w1:World} {r:Nat} {t:TypeId} {x0 x1 x2 x3 x4 x5 y0 y1 y2 y3 y4 y5:Value} (hk:Aa w1 r t #[y0,y1,y2,y3,y4,y5]) (hb:Below w.1.size w w1) (hr:w.1.size <= r):
    ∃ w4,((((((w1.setCell ⟨r,0,none⟩ x0).setCell ⟨r,1,none⟩ x1).setCell ⟨r,2,none⟩ x2).setCell ⟨r,3,none⟩ x3).setCell ⟨r,4,none⟩ x4).setCell ⟨r,5,none⟩ x5) = w4 /\ (w4.cell? ⟨r,0,none⟩ = some x0 /\ w4.cell? ⟨r,1,none⟩ = some x1 /\ w4.cell? ⟨r,2,none⟩ = some x2 /\ w4.cell? ⟨r,3,none⟩ = some x3 /\ w4.cell? ⟨r,4,none⟩ = some x4 /\ w4.cell? ⟨r,5,none⟩ = some x5) /\ Below w.1.size w w4 /\ w1.grownBy w4 (some r):=by
 have h:=(((((hk.set_ 0 x0).set_ 1 x1).set_ 2 x2).set_ 3 x3).set_ 4 x4).set_ 5 x5
 simp only [List.setIfInBounds_toArray,List.set_cons_zero,List.set_cons_succ] at h
 have hb2:=(((((hb.setCell (p:=⟨r,0,none⟩) hr x0).setCell (p:=⟨r,1,none⟩) hr x1).setCell (p:=⟨r,2,none⟩) hr x2).setCell (p:=⟨r,3,none⟩) hr x3).setCell (p:=⟨r,4,none⟩) hr x4).setCell (p:=⟨r,5,none⟩) hr x5
 have hg:=Ai (Ai (Ai (Ai (Ai (Ai (Aj w1 (some r)) 0 x0) 1 x1) 2 x2) 3 x3) 4 x4) 5 x5
 generalize World.setCell _ _ _ = w4 at h hb2 hg |-
 exact ⟨w4,rfl,⟨h.cell 0,h.cell 1,h.cell 2,h.cell 3,h.cell 4,h.cell 5⟩,hb2,hg⟩
theorem Mg (x:VolN) (A:Option Addr) (cap:Nat) (B:Option Addr) (tc:Nat) (C:Option Addr) (cc:Nat) (b off sc:Nat) (w:World) (hx:x.Short) (hcap:x.counts.length <= cap) (hA:Ints w U w.1.size A x.counts) (hB:Trs w w.1.size B x.trusts) (hC:Cls w w.1.size C x.cells) (hbb:b < w.1.size) (h0:Bq w w.1.size b off x.s0) (h1:Bq w w.1.size b (off + 4) x.s1) (a value:Int) (hr:¬ 0 <= Am x.key x.counts a):
    Calls prog 57 #[σ #[O U x.key,ψ A x.counts.length cap,ψ B x.trusts.length tc,ψ C x.cells.length cc,ψ (some ⟨b,off,none⟩) 2 sc,O U x.count],O U a,O U value] w (Jh w (x,0,1)):=by
 have K0:=hid (show Kept w [(w.1.size + 1,31,#[O U 0,ψ none 0 0,ψ none 0 0,ψ none 0 0,ψ none 0 0,O U 0]),(w.1.size,31,#[O U x.key,ψ A x.counts.length cap,ψ B x.trusts.length tc,ψ C x.cells.length cc,ψ (some ⟨b,off,none⟩) 2 sc,O U x.count])] _ from (((Kept.refl w).put1 _ _ #[O U x.key,ψ A x.counts.length cap,ψ B x.trusts.length tc,ψ C x.cells.length cc,ψ (some ⟨b,off,none⟩) 2 sc,O U x.count] rfl).put1 _ _ #[O U 0,ψ none 0 0,ψ none 0 0,ψ none 0 0,ψ none 0 0,O U 0] (by simp)))
 have CO:=hid (fun (u:World) (hb:Below w.1.size w u)=>Dy x A cap B tc C cc b off sc u hx ((hA.below hb (lr _)).more hb.size) ((hB.below hb (lr _)).more hb.size) ((hC.below hb (lr _)).more hb.size) (Nat.lt_of_lt_of_le hbb hb.size) ((h0.below hb (lr _) hbb).more hb.size) ((h1.below hb (lr _) hbb).more hb.size))
 have hn:x.counts.length <= maxLen:=by have:=hx.1;unfold maxLen;omega
 have R:=hid (fun (u:World) (hb:Below w.1.size w u)=>Be x.key a A x.counts cap u hn hcap ((hA.below hb (lr _)).more hb.size))
 have hd:decide (Am x.key x.counts a < 0) = true:=decide_eq_true (by omega)
 clear hA hB hC h0 h1 hn
 generalize Am x.key x.counts a = r at R hd
 clear hr
 go_enter func57,ntmps57
 go_wp2_with fail
 refine (CO.out _ K0.out.1).mono ?_;rintro e u1 ⟨vv,rfl,hv,hb1⟩
 have hk1:=K0.out.below hb1
 obtain ⟨A',c',B',d',C',e',b',o',s',rfl,-⟩:=hv.reads
 have hv1:=hv.mono (show w.1.size + 1 + 1 <= _ by simp)
 have lo0:w.1.size + 1 < u1.1.size:=hk1.lt (x:=(w.1.size + 1,31,#[O U 0,ψ none 0 0,ψ none 0 0,ψ none 0 0,ψ none 0 0,O U 0])) (by simp)
 have lo1:w.1.size < u1.1.size:=hk1.lt (x:=(w.1.size,31,#[O U x.key,ψ A x.counts.length cap,ψ B x.trusts.length tc,ψ C x.cells.length cc,ψ (some ⟨b,off,none⟩) 2 sc,O U x.count])) (by simp)
 have hk2:=hk1.put1 u1.1.size 31 #[O U x.key,ψ A' x.counts.length c',ψ B' x.trusts.length d',ψ C' x.cells.length e',ψ (some ⟨b',o',none⟩) 2 s',O U x.count] rfl
 have hv2:=hv1.below ((Below.refl _ _).alloc (lr _) (.cells #[O U x.key,ψ A' x.counts.length c',ψ B' x.trusts.length d',ψ C' x.cells.length e',ψ (some ⟨b',o',none⟩) 2 s',O U x.count] 31))
 clear hb1 hk1 hv hv1 CO
 go_upto_region 2 with fail
 obtain ⟨X0,Y0,X1,Y1,X2,Y2,-⟩:=hk2.rd
 have HV:=hid hv2
 clear hv2
 go_wp2_with fail
 refine (R.out _ hk2.1).mono ?_;rintro e u2 ⟨rfl,hb2⟩
 have hk3:=hk2.below hb2
 have hv3:=HV.out.below hb2
 clear X0 Y0 X1 Y1 X2 Y2 hb2 hk2 HV
 obtain ⟨X0,Y0,X1,Y1,X2,Y2,-⟩:=hk3.rd
 have HV:=hid hv3
 clear hv3
 go_wp2_with fail
 obtain ⟨w9,e9,⟨d0,d1,d2,d3,d4,d5⟩,hb9,hg9⟩:=AN (w:=w) (x0:=O U x.key) (x1:=ψ A' x.counts.length c') (x2:=ψ B' x.trusts.length d') (x3:=ψ C' x.cells.length e') (x4:=ψ (some ⟨b',o',none⟩) 2 s') (x5:=O U x.count) (hk3.at_ (p:=w.1.size + 1) (t:=31) (cs:=#[O U 0,ψ none 0 0,ψ none 0 0,ψ none 0 0,ψ none 0 0,O U 0]) (by simp)) hk3.1 (by omega)
 rw [e9]
 exact bodyPost_ret (v:=.tuple #[σ #[O U x.key,ψ A' x.counts.length c',ψ B' x.trusts.length d',ψ C' x.cells.length e',ψ (some ⟨b',o',none⟩) 2 s',O U x.count],O U 0,O U 1]) (by simp [results,results57,go_sem,d0,d1,d2,d3,d4,d5]) rfl ⟨_,rfl,(HV.out.out hg9 (by omega)).mono (by omega),hb9⟩
theorem Dw {w:World} {base e size n c g:Nat} {xs:List Value} (h:w.ownsRow base e size (ψ (some ⟨g,0,none⟩) n c) n xs):∀ k,w.frozen? ⟨g,k,none⟩ = false:=by
 rcases h.2 with ⟨h0,_⟩ | ⟨g',cap,cur,e1,hb,hg,_⟩
 ·cases h0
 ·simp only [Value.slice.injEq,Option.some.injEq,Addr.mk.injEq,and_true,true_and] at e1
  obtain ⟨rfl,rfl⟩:=e1
  intro k
  exact (show Aa w g e cur from hg).frozen k
theorem Bl.here {w:World} {base c g k:Nat} {L:List Tru} (h:Bl w base (ψ (some ⟨g,0,none⟩) L.length c) L) (hk:k < L.length):Oq w g (k * 8) (L.getD k default):=by
 obtain ⟨B,d,e,hT,_⟩:=h.reads AD
 obtain ⟨b,off,e2,_,h2⟩:=Trs.at_ hT hk
 simp only [Value.slice.injEq,true_and] at e
 rw [<- e.1] at e2
 simp only [Option.some.injEq,Addr.mk.injEq,and_true] at e2
 obtain ⟨rfl,rfl⟩:=e2
 rwa [Nat.zero_add] at h2
theorem Bv.here {w:World} {base c g k:Nat} {L:List Ce} (h:Bv w base (ψ (some ⟨g,0,none⟩) L.length c) L) (hk:k < L.length):OF w g (k * 2) (L.getD k default):=by
 obtain ⟨B,d,e,hT,_⟩:=h.reads Au
 obtain ⟨b,off,e2,_,h2⟩:=Cls.at_ hT hk
 simp only [Value.slice.injEq,true_and] at e
 rw [<- e.1] at e2
 simp only [Option.some.injEq,Addr.mk.injEq,and_true] at e2
 obtain ⟨rfl,rfl⟩:=e2
 rwa [Nat.zero_add] at h2
theorem VolO.trustsGet {u:World} {base:Nat} {x:VolN} {A B C:Option Addr} {c d e b o sc n0 n1 n2:Nat} (h:VolO u base x (σ #[O U x.key,ψ A n0 c,ψ B n1 d,ψ C n2 e,ψ (some ⟨b,o,none⟩) 2 sc,O U x.count])) (hk:0 < x.trusts.length):
    ∃ g,B = some ⟨g,0,none⟩ /\ base <= g /\ g < u.1.size /\ Bl u base (ψ (some ⟨g,0,none⟩) x.trusts.length d) x.trusts /\
      ∀ (u':World) (L':List Tru),L'.length = x.trusts.length -> u.grownBy u' (some g) -> Bl u' base (ψ (some ⟨g,0,none⟩) L'.length d) L' -> VolO u' base { x with trusts:=L' } (σ #[O U x.key,ψ A n0 c,ψ B n1 d,ψ C n2 e,ψ (some ⟨b,o,none⟩) 2 sc,O U x.count]):=by
 obtain ⟨A2,c2,B2,d2,C2,e2,b2,sc2,g,hv,hB,h1,h2,h3,h4⟩:=h.trustsAt hk
 have hd:d = d2:=by injection hv with hv;injection hv with hv;injection hv with _ hv;injection hv with _ hv;injection hv with hv1 hv;injection hv1
 have hB2:B = B2:=by injection hv with hv;injection hv with hv;injection hv with _ hv;injection hv with _ hv;injection hv with hv1 hv;injection hv1
 subst hd
 exact ⟨g,hB2.trans hB,h1,h2,h3,h4⟩
theorem VolO.cellsGet {u:World} {base:Nat} {x:VolN} {A B C:Option Addr} {c d e b o sc n0 n1 n2:Nat} (h:VolO u base x (σ #[O U x.key,ψ A n0 c,ψ B n1 d,ψ C n2 e,ψ (some ⟨b,o,none⟩) 2 sc,O U x.count])) (hk:0 < x.cells.length):
    ∃ g,C = some ⟨g,0,none⟩ /\ base <= g /\ g < u.1.size /\ Bv u base (ψ (some ⟨g,0,none⟩) x.cells.length e) x.cells /\
      ∀ (u':World) (L':List Ce),L'.length = x.cells.length -> u.grownBy u' (some g) -> Bv u' base (ψ (some ⟨g,0,none⟩) L'.length e) L' -> VolO u' base { x with cells:=L' } (σ #[O U x.key,ψ A n0 c,ψ B n1 d,ψ C n2 e,ψ (some ⟨b,o,none⟩) 2 sc,O U x.count]):=by
 obtain ⟨A2,c2,B2,d2,C2,e2,b2,sc2,g,hv,hB,h1,h2,h3,h4⟩:=h.cellsAt hk
 have hd:e = e2:=by injection hv with hv;injection hv with hv;injection hv with _ hv;injection hv with _ hv;injection hv with _ hv;injection hv with hv1 hv;injection hv1
 have hB2:C = C2:=by injection hv with hv;injection hv with hv;injection hv with _ hv;injection hv with _ hv;injection hv with _ hv;injection hv with hv1 hv;injection hv1
 subst hd
 exact ⟨g,hB2.trans hB,h1,h2,h3,h4⟩
theorem Mm (x:VolN) (A:Option Addr) (cap:Nat) (B:Option Addr) (tc:Nat) (C:Option Addr) (cc:Nat) (b off sc:Nat) (w:World) (hx:x.Short) (hcap:x.counts.length <= cap) (hA:Ints w U w.1.size A x.counts) (hB:Trs w w.1.size B x.trusts) (hC:Cls w w.1.size C x.cells) (hbb:b < w.1.size) (h0:Bq w w.1.size b off x.s0) (h1:Bq w w.1.size b (off + 4) x.s1) (hfit:x.Fit) (a value:Int) (hr:0 <= Am x.key x.counts a) (ha:I64 a):
    Calls prog 57 #[σ #[O U x.key,ψ A x.counts.length cap,ψ B x.trusts.length tc,ψ C x.cells.length cc,ψ (some ⟨b,off,none⟩) 2 sc,O U x.count],O U a,O U value] w (Jh w (Ca x a value)):=by
 obtain ⟨i,er,hi,hp,hq0,hq1,hq2⟩:=Et hr
 have hi':i < x.trusts.length:=by rw [hfit.1];exact hi
 have hup:=Cy hp.2.2.1 (i:=i + 1) (j:=x.counts.length) (by omega) (lr _)
 obtain ⟨j,rfl⟩:∃ j:Nat,a = j:=⟨a.toNat,by omega⟩
 have hj:j < x.cells.length:=by have:=hfit.2;omega
 obtain ⟨bT,oT,rfl,hbT,hcT⟩:=hB.at_ hi'
 obtain ⟨bC,oC,rfl,hbC,hcC⟩:=hC.at_ hj
 unfold Ca
 rw [if_pos hr]
 simp only [er,Int.toNat_natCast]
 clear hq0 hq1 hq2 hup hp hfit hr
 have K0:=hid (show Kept w [(w.1.size + 1,31,#[O U 0,ψ none 0 0,ψ none 0 0,ψ none 0 0,ψ none 0 0,O U 0]),(w.1.size,31,#[O U x.key,ψ A x.counts.length cap,ψ (some ⟨bT,oT,none⟩) x.trusts.length tc,ψ (some ⟨bC,oC,none⟩) x.cells.length cc,ψ (some ⟨b,off,none⟩) 2 sc,O U x.count])] _ from (((Kept.refl w).put1 _ _ #[O U x.key,ψ A x.counts.length cap,ψ (some ⟨bT,oT,none⟩) x.trusts.length tc,ψ (some ⟨bC,oC,none⟩) x.cells.length cc,ψ (some ⟨b,off,none⟩) 2 sc,O U x.count] rfl).put1 _ _ #[O U 0,ψ none 0 0,ψ none 0 0,ψ none 0 0,ψ none 0 0,O U 0] (by simp)))
 have CO:=hid (fun (u:World) (hb:Below w.1.size w u)=>Dy x A cap _ tc _ cc b off sc u hx ((hA.below hb (lr _)).more hb.size) ((hB.below hb (lr _)).more hb.size) ((hC.below hb (lr _)).more hb.size) (Nat.lt_of_lt_of_le hbb hb.size) ((h0.below hb (lr _) hbb).more hb.size) ((h1.below hb (lr _) hbb).more hb.size))
 have hn:x.counts.length <= maxLen:=by have:=hx.1;unfold maxLen;omega
 have R0:=fun (u:World) (hb:Below w.1.size w u)=>Be x.key (j:Int) A x.counts cap u hn hcap ((hA.below hb (lr _)).more hb.size)
 rw [er] at R0
 have R:=hid R0
 have hd:decide ((i:Int) < 0) = false:=decide_eq_false (by omega)
 have T0:=fun (u:World) (hb:Below w.1.size w u)=>IK x.key (j:Int) (x.cells.getD j default).1 (x.cells.getD j default).2 value A x.counts cap (x.trusts.getD i default).clock (x.trusts.getD i default).epoch (x.trusts.getD i default).cursor (x.trusts.getD i default).read (x.trusts.getD i default).written (x.trusts.getD i default).nread (x.trusts.getD i default).nwritten (x.trusts.getD i default).failed u hn hcap ((hA.below hb (lr _)).more hb.size) ha
 rw [show (⟨(x.trusts.getD i default).clock,(x.trusts.getD i default).epoch,(x.trusts.getD i default).cursor,(x.trusts.getD i default).read,(x.trusts.getD i default).written,(x.trusts.getD i default).nread,(x.trusts.getD i default).nwritten,(x.trusts.getD i default).failed⟩:Tru) = (x.trusts.getD i default) from rfl] at T0
 generalize BM x.key x.counts (x.trusts.getD i default) (j:Int) (x.cells.getD j default).1 (x.cells.getD j default).2 value = P at T0 |-
 obtain ⟨nt,nc,nr,ns⟩:=P
 simp only [] at T0 |-
 generalize (x.trusts.getD i default) = tt at hcT T0
 generalize (x.cells.getD j default) = ct at hcC T0
 have T:=hid T0
 generalize hRR:(if ns = 1 then _ else _:VolN × Int × Int) = RR
 have HRR:=hid hRR
 clear hRR
 have hlt1:(i:Int) < x.trusts.length:=by omega
 have hlt2:(j:Int) < x.cells.length:=by omega
 have hi0:(0:Int) <= i:=by omega
 have hj0:(0:Int) <= j:=by omega
 have hsx:=hx.2.1
 have hsy:=hx.2.2.1
 clear hA hB hC h0 h1 hn R0 T0 er hi
 have HcT:=hid hcT
 have HcC:=hid hcC
 clear hcT hcC
 go_enter func57,ntmps57
 go_wp2_with fail
 refine (CO.out _ K0.out.1).mono ?_;rintro e u1 ⟨vv,rfl,hv,hb1⟩
 have hk1:=K0.out.below hb1
 obtain ⟨A',c',B',d',C',e',b',o',s',rfl,-⟩:=hv.reads
 obtain ⟨gt,rfl,hgt0,hgt1,-⟩:=hv.trustsGet (by omega)
 obtain ⟨gc,rfl,hgc0,hgc1,-⟩:=hv.cellsGet (by omega)
 have hsz:w.1.size + 1 + 1 <= ((w.alloc (.cells #[O U x.key,ψ A x.counts.length cap,ψ (some ⟨bT,oT,none⟩) x.trusts.length tc,ψ (some ⟨bC,oC,none⟩) x.cells.length cc,ψ (some ⟨b,off,none⟩) 2 sc,O U x.count] 31)).alloc (.cells #[O U 0,ψ none 0 0,ψ none 0 0,ψ none 0 0,ψ none 0 0,O U 0] 31)).1.size:=by simp
 have hv1:=hv.mono hsz
 have hgt2:w.1.size + 1 + 1 <= gt:=Nat.le_trans hsz hgt0
 have hgc2:w.1.size + 1 + 1 <= gc:=Nat.le_trans hsz hgc0
 clear hgt0 hgc0 hsz
 have lo0:w.1.size + 1 < u1.1.size:=hk1.lt (x:=(w.1.size + 1,31,#[O U 0,ψ none 0 0,ψ none 0 0,ψ none 0 0,ψ none 0 0,O U 0])) (by simp)
 have lo1:w.1.size < u1.1.size:=hk1.lt (x:=(w.1.size,31,#[O U x.key,ψ A x.counts.length cap,ψ (some ⟨bT,oT,none⟩) x.trusts.length tc,ψ (some ⟨bC,oC,none⟩) x.cells.length cc,ψ (some ⟨b,off,none⟩) 2 sc,O U x.count])) (by simp)
 have hk2:=hk1.put1 u1.1.size 31 #[O U x.key,ψ A' x.counts.length c',ψ (some ⟨gt,0,none⟩) x.trusts.length d',ψ (some ⟨gc,0,none⟩) x.cells.length e',ψ (some ⟨b',o',none⟩) 2 s',O U x.count] rfl
 have hv2:=hv1.below ((Below.refl _ _).alloc (lr _) (.cells #[O U x.key,ψ A' x.counts.length c',ψ (some ⟨gt,0,none⟩) x.trusts.length d',ψ (some ⟨gc,0,none⟩) x.cells.length e',ψ (some ⟨b',o',none⟩) 2 s',O U x.count] 31))
 clear hb1 hk1 hv hv1 CO
 go_upto_region 2 with fail
 obtain ⟨X0,Y0,X1,Y1,X2,Y2,-⟩:=hk2.rd
 have HV:=hid hv2
 clear hv2
 go_wp2_with fail
 refine (R.out _ hk2.1).mono ?_;rintro e u2 ⟨rfl,hb2⟩
 have hk3:=hk2.below hb2
 have hv3:=HV.out.below hb2
 have lu2:u1.1.size < u2.1.size:=hk3.lt (x:=(u1.1.size,31,#[O U x.key,ψ A' x.counts.length c',ψ (some ⟨gt,0,none⟩) x.trusts.length d',ψ (some ⟨gc,0,none⟩) x.cells.length e',ψ (some ⟨b',o',none⟩) 2 s',O U x.count])) (by simp)
 clear X0 Y0 X1 Y1 X2 Y2 hb2 hk2 HV R
 obtain ⟨X0,Y0,X1,Y1,X2,Y2,-⟩:=hk3.rd
 have HV:=hid hv3
 clear hv3
 go_upto_region 5 with fail
 clear X0 Y0 X1 Y1 X2 Y2
 refine Ao [false,false,false,false,false,false,false,false,false,false,false,false,false,false,true,false,false,false,false,false,true,true,true,true,false,false] (ShM [(14,.tuple #[σ #[O U nt.clock,O U nt.epoch,O U nt.cursor,O U nt.read,O U nt.written,O U nt.nread,O U nt.nwritten,φ nt.failed],σ #[O U nc.1,O U nc.2],O U nr,O U ns])] [20,21]) (fun D γ u=>DL u2 (u2.1.size) [] [] [(20,22,94,#[O U nt.clock,O U nt.epoch,O U nt.cursor,O U nt.read,O U nt.written,O U nt.nread,O U nt.nwritten,φ nt.failed]),(21,23,118,#[O U nc.1,O U nc.2])] D γ u) (by kernel_rfl) (by kernel_rfl) (fun γ=>by kernel_rfl) (fun D γ γ' w ha h=>h.loc ha) (ShM.inh _ _) (fun γ=>DL.start (ResC.start (Kept.refl _) (fun x hx=>by cases hx)) (lr _) (lr _) (fun x hx=>by cases hx) (fun x hx=>by cases hx)) (fun γ hγ=>?_)
 have g14:γ 14 = .tuple #[σ #[O U nt.clock,O U nt.epoch,O U nt.cursor,O U nt.read,O U nt.written,O U nt.nread,O U nt.nwritten,φ nt.failed],σ #[O U nc.1,O U nc.2],O U nr,O U ns]:=hγ 14 rfl
 have g22:γ 22 = undef:=hγ 22 rfl
 obtain ⟨gT,g20⟩:∃ g:Nat,γ 20 = .pointer (some ⟨g,0,none⟩):=hγ 20 rfl
 have g23:γ 23 = undef:=hγ 23 rfl
 obtain ⟨gC,g21⟩:∃ g:Nat,γ 21 = .pointer (some ⟨g,0,none⟩):=hγ 21 rfl
 apply Exists.intro
 refine ⟨fun D=>?_,?_,?_⟩
 ·simp only [AP,cond_true,cond_false,Nat.reduceAdd,g14,g22,g20,g23,g21]
  iterate 26 (first
   | go_big_quiet_skip
   | (go_big_quiet_want
      go_big_quiet_op
      first
       | go_big_quiet_on
       | (apply Exists.intro
          refine ⟨fun u hu=>?_,?_⟩
          ·first
             | with_reducible rfl
             | (have hk9:=hk3.below hu.1.1.1;obtain ⟨X0,Y0,X1,Y1,X2,Y2,-⟩:=hk9.rd;obtain ⟨tc0,tc1,tc2,tc3,tc4,tc5,tc6,tc7⟩:=HcT.out.below hk9.1 hbT;obtain ⟨cc0,cc1⟩:=HcC.out.below hk9.1 hbC;go_simp;first | done | with_reducible rfl)
          go_big_quiet_on)))
  exact wpQuiet_nil rfl
 ·simp only [AY,Nat.reduceAdd]
  refine ⟨fun D u hD hd hu=>?_,fun D u hD hd hu=>?_,fun D u hD hd hu=>?_,fun D u hD hd hu=>?_,fun D u hD hd hu=>?_,trivial⟩
  ·have hb:=hu.1.1.1
   exact As ((T.out u (hk3.below hb).1).mono fun e w' ⟨he,hb⟩=>⟨_,he,rfl,hu.below hb 14 _ (by simp)⟩) rfl rfl rfl rfl (by kernel_rfl)
  ·exact DJ (cs:=#[O U 0,O U 0,O U 0,O U 0,O U 0,O U 0,O U 0,φ false]) rfl (by kernel_rfl) ⟨⟨_,rfl⟩,hu.made (j:=22) (t:=94) (V:=#[O U nt.clock,O U nt.epoch,O U nt.cursor,O U nt.read,O U nt.written,O U nt.nread,O U nt.nwritten,φ nt.failed]) (by simp) (by simp) (by simp) hD (by decide) rfl⟩
  ·exact DJ (cs:=#[O U 0,O U 0]) rfl (by kernel_rfl) ⟨⟨_,rfl⟩,hu.made (j:=23) (t:=118) (V:=#[O U nc.1,O U nc.2]) (by simp) (by simp) (by simp) hD (by decide) rfl⟩
  ·have dk:=hd { on:=20,ground:=Ground.data } (by simp) rfl rfl
   obtain ⟨g0,e1,z,hz,hzs⟩:=hu.box (k:=20) (j:=22) (t:=94) (V:=#[O U nt.clock,O U nt.epoch,O U nt.cursor,O U nt.read,O U nt.written,O U nt.nread,O U nt.nwritten,φ nt.failed]) (by simp) dk
   obtain rfl:gT = g0:=by rw [g20] at e1;simpa using e1
   exact AI hz rfl rfl rfl (by kernel_rfl) hzs (by simp [Value.oneCell']) (fun w' hc hg=>⟨rfl,hu.filled (k:=20) (t:=94) (V:=#[O U nt.clock,O U nt.epoch,O U nt.cursor,O U nt.read,O U nt.written,O U nt.nread,O U nt.nwritten,φ nt.failed]) (by simp) dk (by simp) (by simp) (by decide) e1 hg hc _⟩)
  ·have dk:=hd { on:=21,ground:=Ground.data } (by simp) rfl rfl
   obtain ⟨g0,e1,z,hz,hzs⟩:=hu.box (k:=21) (j:=23) (t:=118) (V:=#[O U nc.1,O U nc.2]) (by simp) dk
   obtain rfl:gC = g0:=by rw [g21] at e1;simpa using e1
   exact AI hz rfl rfl rfl (by kernel_rfl) hzs (by simp [Value.oneCell']) (fun w' hc hg=>⟨rfl,hu.filled (k:=21) (t:=118) (V:=#[O U nc.1,O U nc.2]) (by simp) dk (by simp) (by simp) (by decide) e1 hg hc _⟩)
 ·intro D uf hD hu
  have hb3:=hu.1.1.1
  have hf:=hk3.below hb3
  obtain ⟨g0,e1,hge20,hgc20⟩:=hu.doneM (k:=20) (j:=22) (t:=94) (V:=#[O U nt.clock,O U nt.epoch,O U nt.cursor,O U nt.read,O U nt.written,O U nt.nread,O U nt.nwritten,φ nt.failed]) (by simp) (hD 20 (by simp) rfl) (hD 22 (by simp) rfl)
  obtain rfl:gT = g0:=by rw [g20] at e1;simpa using e1
  clear e1
  have hfz1:=hf.more (Nat.le_trans hk3.1.size hge20) hgc20
  obtain ⟨g0,e1,hge21,hgc21⟩:=hu.doneM (k:=21) (j:=23) (t:=118) (V:=#[O U nc.1,O U nc.2]) (by simp) (hD 21 (by simp) rfl) (hD 23 (by simp) rfl)
  obtain rfl:gC = g0:=by rw [g21] at e1;simpa using e1
  clear e1
  have hfz2:=hfz1.more (Nat.le_trans hk3.1.size hge21) hgc21
  have hne20_21:gT ≠ gC:=fun e=>hu.2.2.2.2.2.2.1 _ (show (20,22,94,#[O U nt.clock,O U nt.epoch,O U nt.cursor,O U nt.read,O U nt.written,O U nt.nread,O U nt.nwritten,φ nt.failed]) ∈ ([(20,22,94,#[O U nt.clock,O U nt.epoch,O U nt.cursor,O U nt.read,O U nt.written,O U nt.nread,O U nt.nwritten,φ nt.failed]),(21,23,118,#[O U nc.1,O U nc.2])]:List Made) by simp) _ (show (21,23,118,#[O U nc.1,O U nc.2]) ∈ ([(20,22,94,#[O U nt.clock,O U nt.epoch,O U nt.cursor,O U nt.read,O U nt.written,O U nt.nread,O U nt.nwritten,φ nt.failed]),(21,23,118,#[O U nc.1,O U nc.2])]:List Made) by simp) (nq rfl) (hD 20 (by simp) rfl) (hD 21 (by simp) rfl) (by rw [g20,g21,e])
  clear hu hD
  obtain ⟨X0,Y0,X1,Y1,X2,Y2,X3,Y3,X4,Y4,-⟩:=hfz2.rd
  have hvf:=HV.out.below hb3
  clear HV
  by_cases hs:ns = 1
  ·subst hs
   have hRR:=HRR.out
   rw [if_pos rfl] at hRR
   subst hRR
   have HV:=hid hvf
   clear hvf
   go_wp2_with fail
   obtain ⟨w9,e9,⟨d0,d1,d2,d3,d4,d5⟩,hb9,hg9⟩:=AN (w:=w) (x0:=O U x.key) (x1:=ψ A' x.counts.length c') (x2:=ψ (some ⟨gt,0,none⟩) x.trusts.length d') (x3:=ψ (some ⟨gc,0,none⟩) x.cells.length e') (x4:=ψ (some ⟨b',o',none⟩) 2 s') (x5:=O U x.count) (hfz2.at_ (p:=w.1.size + 1) (t:=31) (cs:=#[O U 0,ψ none 0 0,ψ none 0 0,ψ none 0 0,ψ none 0 0,O U 0]) (by simp)) hfz2.1 (by omega)
   rw [e9]
   exact bodyPost_ret (v:=.tuple #[σ #[O U x.key,ψ A' x.counts.length c',ψ (some ⟨gt,0,none⟩) x.trusts.length d',ψ (some ⟨gc,0,none⟩) x.cells.length e',ψ (some ⟨b',o',none⟩) 2 s',O U x.count],O U 0,O U 1]) (by simp [results,results57,go_sem,d0,d1,d2,d3,d4,d5]) rfl ⟨_,rfl,(HV.out.out hg9 (by omega)).mono (by omega),hb9⟩
  ·have hRR:=HRR.out
   rw [if_neg hs] at hRR
   subst hRR
   have hsb:(ns == (1:Int)) = false:=beq_eq_false_iff_ne.2 hs
   obtain ⟨g1,e1,-,-,hrow,hset⟩:=hvf.trustsGet (by omega)
   injection e1 with e1;injection e1 with e1;subst e1
   have hfz:=Dw hrow
   obtain ⟨p0,p1,p2,p3,p4,p5,p6,p7⟩:=hrow.here hi'
   have HR:=hid hrow
   have HS:=hid hset
   clear hrow hset hvf
   go_upto_region 9 with fail
   have hr5:=HR.out.set_ hi' nt
   have hg5:=Ai (Ai (Ai (Ai (Ai (Ai (Ai (Ai (Aj uf (some gt)) (i * 8) (O U nt.clock)) (i * 8 + 1) (O U nt.epoch)) (i * 8 + 2) (O U nt.cursor)) (i * 8 + 3) (O U nt.read)) (i * 8 + 4) (O U nt.written)) (i * 8 + 5) (O U nt.nread)) (i * 8 + 6) (O U nt.nwritten)) (i * 8 + 7) (φ nt.failed)
   generalize World.setCell _ _ _ = w5 at hr5 hg5 |-
   have hk5:=hfz2.grownO hg5 (fun k e=>⟨by injection e;omega,fun y hy=>by simp at hy;injection e;rcases hy with rfl | rfl | rfl | rfl | rfl <;> (simp only [];omega)⟩)
   have hv5:=HS.out w5 (x.trusts.set i nt) (by simp) hg5 (by rw [List.length_set];exact hr5)
   clear hr5 hg5 HR HS hfz p0 p1 p2 p3 p4 p5 p6 p7 hfz2 X0 Y0 X1 Y1 X2 Y2 X3 Y3 X4 Y4
   obtain ⟨X0,Y0,X1,Y1,X2,Y2,X3,Y3,X4,Y4,-⟩:=hk5.rd
   obtain ⟨g1,e1,-,-,hrow,hset⟩:=hv5.cellsGet (by simp only [];omega)
   injection e1 with e1;injection e1 with e1;subst e1
   have hfz:=Dw hrow
   obtain ⟨p0,p1⟩:=hrow.here hj
   have HR:=hid hrow
   have HS:=hid hset
   clear hrow hset hv5
   go_upto_region 10 with fail
   have hr6:=HR.out.set_ hj nc
   have hg6:=Ai (Ai (Aj w5 (some gc)) (j * 2) (O U nc.1)) (j * 2 + 1) (O U nc.2)
   generalize World.setCell _ _ _ = w6 at hr6 hg6 |-
   have hk6:=hk5.grownO hg6 (fun k e=>⟨by injection e;omega,fun y hy=>by simp at hy;injection e;rcases hy with rfl | rfl | rfl | rfl | rfl <;> (simp only [];omega)⟩)
   have hv6:=HS.out w6 (x.cells.set j nc) (by simp) hg6 (by rw [List.length_set];exact hr6)
   clear hr6 hg6 HR HS hfz p0 p1 hk5 X0 Y0 X1 Y1 X2 Y2 X3 Y3 X4 Y4
   obtain ⟨X0,Y0,X1,Y1,X2,Y2,X3,Y3,X4,Y4,-⟩:=hk6.rd
   have HV:=hid hv6
   clear hv6
   go_wp2_with fail
   obtain ⟨w9,e9,⟨d0,d1,d2,d3,d4,d5⟩,hb9,hg9⟩:=AN (w:=w) (x0:=O U x.key) (x1:=ψ A' x.counts.length c') (x2:=ψ (some ⟨gt,0,none⟩) x.trusts.length d') (x3:=ψ (some ⟨gc,0,none⟩) x.cells.length e') (x4:=ψ (some ⟨b',o',none⟩) 2 s') (x5:=O U x.count) (hk6.at_ (p:=w.1.size + 1) (t:=31) (cs:=#[O U 0,ψ none 0 0,ψ none 0 0,ψ none 0 0,ψ none 0 0,O U 0]) (by simp)) hk6.1 (by omega)
   rw [e9]
   exact bodyPost_ret (v:=.tuple #[σ #[O U x.key,ψ A' x.counts.length c',ψ (some ⟨gt,0,none⟩) x.trusts.length d',ψ (some ⟨gc,0,none⟩) x.cells.length e',ψ (some ⟨b',o',none⟩) 2 s',O U x.count],O U nr,O U ns]) (by simp [results,results57,go_sem,d0,d1,d2,d3,d4,d5]) rfl ⟨_,rfl,(HV.out.out hg9 (by omega)).mono (by omega),hb9⟩
theorem GS (x:VolN) (A:Option Addr) (cap:Nat) (B:Option Addr) (tc:Nat) (C:Option Addr) (cc:Nat) (b off sc:Nat) (w:World) (hx:x.Short) (hcap:x.counts.length <= cap) (hA:Ints w U w.1.size A x.counts) (hB:Trs w w.1.size B x.trusts) (hC:Cls w w.1.size C x.cells) (hbb:b < w.1.size) (h0:Bq w w.1.size b off x.s0) (h1:Bq w w.1.size b (off + 4) x.s1) (hfit:x.Fit) (a value:Int) (ha:I64 a):
    Calls prog 57 #[σ #[O U x.key,ψ A x.counts.length cap,ψ B x.trusts.length tc,ψ C x.cells.length cc,ψ (some ⟨b,off,none⟩) 2 sc,O U x.count],O U a,O U value] w (Jh w (Ca x a value)):=by
 by_cases hr:0 <= Am x.key x.counts a
 ·exact Mm x A cap B tc C cc b off sc w hx hcap hA hB hC hbb h0 h1 hfit a value hr ha
 ·have e:Ca x a value = (x,0,1):=by unfold Ca;rw [if_neg hr]
  rw [e]
  exact Mg x A cap B tc C cc b off sc w hx hcap hA hB hC hbb h0 h1 a value hr

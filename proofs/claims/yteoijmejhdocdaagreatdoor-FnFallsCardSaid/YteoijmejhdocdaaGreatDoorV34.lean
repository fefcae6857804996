import Derived.Test.YteoijmejhdocdaaGreatDoorV33
import Derived.RegionTactic
namespace Go.Proofs.YteoijmejhdocdaaGreatDoor.Mx
open Go.ChangeShapes Go.WideShapes Go.ChangeAt Go.RowKit
set_option linter.unusedVariables false
open Go.Lib (hid)
open Go.Proofs.Tryz
set_option maxRecDepth 20000
set_option maxHeartbeats 64000000
open Value renaming int → O, slice → ψ, bool → φ, agg → σ
open IntKind renaming i64 → U
open Ending renaming returned → τ
theorem Cls.ces {w:World} {B:Nat} {A:Option Addr} {L:List Ce} (h:Cls w B A L):Ces w B A L:=by
 intro i hi
 obtain ⟨b,off,rfl,hb,c0,c1⟩:=Cls.at_ h hi
 exact ⟨b,off,rfl,hb,c0,c1⟩
theorem LX (A C:Option Addr) (l:List Int) (cap cap':Nat) (w:World) (hn:l.length <= 1048576) (hA:Ints w U w.1.size A l) (hC:Ints w U w.1.size C l):
    Calls prog 65 #[ψ A l.length cap,ψ C l.length cap'] w fun e w'=>e = τ (φ true) /\ Below w.1.size w w':=by
 have HA:=hid hA
 have HC:=hid hC
 clear hA hC
 go_enter func65,ntmps65
 go_wp2_with fail
 go_loopw [5] (fun i wr=>∃ k:Nat,k <= l.length /\ i = O U k /\ Below w.1.size w wr) (fun i _=>l.length - (intOf i).toNat)
 case atStart=>exact ⟨0,Nat.zero_le _,rfl,Below.refl _ _⟩
 case round=>
  obtain ⟨k,hk,rfl,hbel⟩:=hrel
  have HB:=hid hbel
  clear hbel
  by_cases hlt:k < l.length
  ·obtain ⟨b,off,rfl,hb,c0⟩:=(HA.out.below HB.out (lr _)) k hlt
   obtain ⟨b',off',rfl,hb',d0⟩:=(HC.out.below HB.out (lr _)) k hlt
   have hlt':(k:Int) < l.length:=by omega
   have k0':(0:Int) <= k:=by omega
   generalize l.getD k 0 = t at c0 d0
   clear hb hb' hk
   go_upto_region 6 with fail
   go_region
   go_wp2_with fail
   go_roundw
   case rel=>exact ⟨k + 1,by omega,by go_num,HB.out.drew⟩
   case measure=>simp [intOf];omega
  ·have hlt':¬ (k:Int) < l.length:=by omega
   go_wp2_with fail
   go_ret
   exact ⟨rfl,HB.out⟩
theorem Ff (x:VolG) (v v':Value) (w:World) (hx:x.Short) (h:RdG w w.1.size x v) (h':RdG w w.1.size x v'):
    Calls prog 21 #[v,v'] w fun e w'=>e = τ (φ true) /\ Below w.1.size w w':=by
 obtain ⟨A,c,B,d,C,e,E,s,rfl,i1,i2,i3,i4,-⟩:=h
 obtain ⟨A2,c2,B2,d2,C2,e2,E2,s2,rfl,j1,j2,j3,j4,-⟩:=h'
 have K0:=hid (show Kept w [(w.1.size + 1,31,#[O U x.key,ψ A2 x.counts.length c2,ψ B2 x.trusts.length d2,ψ C2 x.cells.length e2,ψ E2 x.slots.length s2,O U x.count]),(w.1.size,31,#[O U x.key,ψ A x.counts.length c,ψ B x.trusts.length d,ψ C x.cells.length e,ψ E x.slots.length s,O U x.count])] _ from (((Kept.refl w).put1 _ _ #[O U x.key,ψ A x.counts.length c,ψ B x.trusts.length d,ψ C x.cells.length e,ψ E x.slots.length s,O U x.count] rfl).put1 _ _ #[O U x.key,ψ A2 x.counts.length c2,ψ B2 x.trusts.length d2,ψ C2 x.cells.length e2,ψ E2 x.slots.length s2,O U x.count] (by simp)))
 have T1:=hid (fun (u:World) (hb:Below w.1.size w u)=>LX A A2 x.counts c c2 u hx.1 ((i1.below hb (lr _)).more hb.size) ((j1.below hb (lr _)).more hb.size))
 have T2:=hid (fun (u:World) (hb:Below w.1.size w u)=>Fd B B2 x.trusts d d2 u (by have:=hx.2.1;unfold maxLen;omega) ((i2.below hb (lr _)).more hb.size) ((j2.below hb (lr _)).more hb.size))
 have T3:=hid (fun (u:World) (hb:Below w.1.size w u)=>Fr C C2 x.cells e e2 u hx.2.2.1 (Cls.ces ((i3.below hb (lr _)).more hb.size)) (Cls.ces ((j3.below hb (lr _)).more hb.size)))
 have I4:=hid i4
 have J4:=hid j4
 have HS:=hid hx.2.2.2.2
 have hnS:=hx.2.2.2.1
 clear hx i1 i2 i3 i4 j1 j2 j3 j4
 obtain ⟨key,l,L,M,S,cnt⟩:=x
 simp only [] at K0 T1 T2 T3 I4 J4 HS hnS
 go_enter func21,ntmps21
 go_wp2_with fail
 have h0:=K0.out
 clear K0
 obtain ⟨X0,Y0,X1,Y1,-⟩:=h0.rd
 have H0:=hid h0
 clear h0
 go_wp2_with fail
 refine (T1.out _ H0.out.1).mono ?_;rintro e u1 ⟨rfl,b1⟩
 have h1:=H0.out.below b1
 clear b1 X0 Y0 X1 Y1 H0
 obtain ⟨X0,Y0,X1,Y1,-⟩:=h1.rd
 have H1:=hid h1
 clear h1
 go_wp2_with fail
 refine (T2.out _ H1.out.1).mono ?_;rintro e u2 ⟨rfl,b2⟩
 have h2:=H1.out.below b2
 clear b2 X0 Y0 X1 Y1 H1
 obtain ⟨X0,Y0,X1,Y1,-⟩:=h2.rd
 have H2:=hid h2
 clear h2
 go_wp2_with fail
 refine (T3.out _ H2.out.1).mono ?_;rintro e u3 ⟨rfl,b3⟩
 have h3:=H2.out.below b3
 clear b3 X0 Y0 X1 Y1 H2
 obtain ⟨X0,Y0,X1,Y1,-⟩:=h3.rd
 have H3:=hid h3
 clear h3
 go_wp2_with fail
 clear T1 T2 T3 X0 Y0 X1 Y1
 go_loopw [5] (fun i wr=>∃ k:Nat,k <= S.length /\ i = O U k /\ Kept w [(w.1.size + 1,31,#[O U key,ψ A2 l.length c2,ψ B2 L.length d2,ψ C2 M.length e2,ψ E2 S.length s2,O U cnt]),(w.1.size,31,#[O U key,ψ A l.length c,ψ B L.length d,ψ C M.length e,ψ E S.length s,O U cnt])] wr) (fun i _=>S.length - (intOf i).toNat)
 case atStart=>exact ⟨0,Nat.zero_le _,rfl,H3.out⟩
 case round=>
  obtain ⟨k,hk,rfl,hkp⟩:=hrel
  by_cases hlt:k < S.length
  ·obtain ⟨b,off,rfl,hb,P,pc,R,rc,c0,c1,c2,c3,hr⟩:=(I4.out.below hkp.1 (lr _)) k hlt
   obtain ⟨b',off',rfl,hb',P',pc',R',rc',d0,d1,d2,d3,hr'⟩:=(J4.out.below hkp.1 (lr _)) k hlt
   have hts:=HS.out k hlt
   have hlt':(k:Int) < S.length:=by omega
   have k0':(0:Int) <= k:=by omega
   have hsz:=hkp.1.size
   have hbw:b < wr.1.size:=by omega
   have hbw':b' < wr.1.size:=by omega
   generalize S.getD k default = t at c0 c1 c2 c3 d0 d1 d2 d3 hr hr' hts
   obtain ⟨tc,tt,tm,tl⟩:=t
   simp only [] at c0 c1 c2 c3 d0 d1 d2 d3 hts
   have LS:=hid (fun (u:World) (hu:Below wr.1.size wr u)=>LM tc tm P P' tt pc pc' u (by have:=hts.1;unfold maxLen;omega) (Sls.grow (Sls.more hr.1 hsz) hu) (Sls.grow (Sls.more hr'.1 hsz) hu))
   have LC:=hid (fun (u:World) (hu:Below wr.1.size wr u)=>Fr R R' tl rc rc' u hts.2 (Cls.ces (Sls.grow (Sls.more hr.2 hsz) hu)) (Cls.ces (Sls.grow (Sls.more hr'.2 hsz) hu)))
   have HK:=hid hkp
   clear hr hr' hts hsz hb hb' hk
   obtain ⟨X0,Y0,X1,Y1,-⟩:=hkp.rd
   clear hkp
   go_upto_region 6 with fail
   refine Kf [false,false,false,false,false,false,false,false,false,false,false,false,false,false,false,false,false,false,false,false,false,false,false,false,false,false,false,false,false,false] [false,false,false,false,false,false,false,false,false,false,false,false,true,false,false,false,false,false,false,false,false,false,false,false,false,false,false,true,false,false] [false,false,false,false,false,false,false,false,false,false,false,false,true,false,false,false,false,false,false,false,false,false,false,false,false,false,false,true,false,false] (fun _=>φ true) (fun _ _=>True) (fun _ _ u=>Below wr.1.size wr u) (by kernel_rfl) (by kernel_rfl) (by kernel_rfl) (fun γ=>by kernel_rfl) (fun D γ γ' w ha h=>h) (fun i=>⟨undef,trivial⟩) (fun γ=>(Below.refl _ _).drew) (fun γ hγ=>?_)
   apply Exists.intro
   refine ⟨fun D=>?_,?_,?_,?_⟩
   ·have e12:gam [false,false,false,false,false,false,false,false,false,false,false,false,true,false,false,false,false,false,false,false,false,false,false,false,false,false,false,true,false,false] (fun _=>φ true) γ 12 = φ true:=rfl
    have e27:gam [false,false,false,false,false,false,false,false,false,false,false,false,true,false,false,false,false,false,false,false,false,false,false,false,false,false,false,true,false,false] (fun _=>φ true) γ 27 = φ true:=rfl
    simp only [AP,cond_true,cond_false,Nat.reduceAdd,e12,e27]
    clear e12 e27
    iterate 30 (first
     | go_big_quiet_skip
     | (go_big_quiet_want
        go_big_quiet_op
        first
         | go_big_quiet_on
         | (apply Exists.intro
            refine ⟨fun u hu=>?_,?_⟩
            ·first
               | with_reducible rfl
               | (obtain ⟨mc0,mf0,mc1,mf1,-⟩:=(HK.out.below hu).rd;have q0:=(hu.cell (p:=⟨b,off + k * 4,none⟩) hbw).trans c0;have q1:=(hu.cell (p:=⟨b,off + k * 4 + 1,none⟩) hbw).trans c1;have q2:=(hu.cell (p:=⟨b,off + k * 4 + 2,none⟩) hbw).trans c2;have q3:=(hu.cell (p:=⟨b,off + k * 4 + 3,none⟩) hbw).trans c3;have r0:=(hu.cell (p:=⟨b',off' + k * 4,none⟩) hbw').trans d0;have r1:=(hu.cell (p:=⟨b',off' + k * 4 + 1,none⟩) hbw').trans d1;have r2:=(hu.cell (p:=⟨b',off' + k * 4 + 2,none⟩) hbw').trans d2;have r3:=(hu.cell (p:=⟨b',off' + k * 4 + 3,none⟩) hbw').trans d3;go_simp;first | done | with_reducible rfl)
            go_big_quiet_on)))
    exact wpQuiet_nil rfl
   ·first | (simp only [AY];done) | (simp only [AY];trivial) | trivial
   ·simp only [FE]
    refine ⟨fun D u hd hu=>?_,fun D u hd hu=>?_,trivial⟩
    ·exact As ((LS.out u hu).mono fun e w' ⟨he,hb⟩=>⟨_,he,rfl,hu.trans (hb.mono hu.size)⟩) rfl rfl rfl rfl (by kernel_rfl)
    ·exact As ((LC.out u hu).mono fun e w' ⟨he,hb⟩=>⟨_,he,rfl,hu.trans (hb.mono hu.size)⟩) rfl rfl rfl rfl (by kernel_rfl)
   ·intro D uf hD hu
    have HF:=hid (HK.out.below hu)
    clear hu hD hγ
    go_wp2_with fail
    go_roundw
    case rel=>exact ⟨k + 1,by omega,by go_num,HF.out⟩
    case measure=>simp [intOf];omega
  ·have hlt':¬ (k:Int) < S.length:=by omega
   obtain ⟨X0,Y0,X1,Y1,-⟩:=hkp.rd
   have HB:=hid hkp.1
   clear hkp
   go_wp2_with fail
   go_ret
   exact ⟨rfl,HB.out⟩
open Go.RowKit
def Cur (w:World) (g:Nat) (A:Option Addr) (l:List Int) (cap:Nat):Prop:=
 Ints w .u8 g A l /\ ∃ (i:Nat) (h:Int),i <= l.length /\ Aa w g 134 #[ψ A l.length cap,O U i,O U h]
theorem Cur.lt {w:World} {g:Nat} {A:Option Addr} {l:List Int} {cap:Nat} (h:Cur w g A l cap):g < w.1.size:=by
 obtain ⟨_,i,x,_,hb⟩:=h
 exact hb.lt
theorem Cur.below {w w':World} {g B:Nat} {A:Option Addr} {l:List Int} {cap:Nat} (h:Cur w g A l cap) (hb:Below B w w') (hg:g < B):Cur w' g A l cap:=by
 obtain ⟨hA,i,x,hi,hc⟩:=h
 exact ⟨hA.below hb (by omega),i,x,hi,hc.below hb hg⟩
theorem Cur.gb {w w':World} {g g':Nat} {A:Option Addr} {l:List Int} {cap:Nat} (h:Cur w g A l cap) (hb:w.grownBy w' (some g')) (hg:g < g'):Cur w' g A l cap:=by
 obtain ⟨hA,i,x,hi,hc⟩:=h
 exact ⟨hA.gb hb (by have:=hc.lt;omega) (by omega),i,x,hi,hc.grown hb (by intro e;injection e with e;omega)⟩
def Num (lo hi:Int) (w:World) (g:Nat) (A:Option Addr) (l:List Int) (cap:Nat) (e:Ending) (w':World):Prop:=
 ∃ v:Int,e = τ (O U v) /\ (lo <= v /\ v <= hi) /\ w.grownBy w' (some g) /\ Cur w' g A l cap
theorem Ft (g:Nat) (A:Option Addr) (l:List Int) (cap:Nat) (w:World) (hn:l.length <= maxLen) (hc:Cur w g A l cap):
    Calls prog 163 #[.pointer (some ⟨g,0,none⟩)] w (Num 0 255 w g A l cap):=by
 unfold maxLen at hn
 obtain ⟨hA,i,h,hi,hb⟩:=hc
 have c0:w.cell? ⟨g,0,none⟩ = some (ψ A l.length cap):=hb.cell 0
 have c1:w.cell? ⟨g,1,none⟩ = some (O U i):=hb.cell 1
 have c2:w.cell? ⟨g,2,none⟩ = some (O U h):=hb.cell 2
 have f1:=hb.frozen 1
 have f2:=hb.frozen 2
 have HB:=hid hb
 have HA:=hid hA
 clear hb hA
 go_enter func163,ntmps163
 go_wp2_with fail
 generalize wrap64 (wrap64 (h * 6364136223846793005) + 1442695040888963407) = h2
 go_quiet (fail)
 go_wp2_with fail
 have hx:=KN (bits BinOp.xor IntKind.i64 (h2 / 8589934592) (h2 / 35184372088832)) 255 (by omega)
 rw [show ((255:Nat):Int) = 255 from rfl] at hx
 generalize bits BinOp.and IntKind.i64 (bits BinOp.xor IntKind.i64 (h2 / 8589934592) (h2 / 35184372088832)) 255 = x at hx
 obtain ⟨x0,x1⟩:=hx
 by_cases hlt:i < l.length
 ·obtain ⟨b,off,rfl,hbg,hcb⟩:=HA.out i hlt
  have hi':(i:Int) < l.length:=by omega
  have hi0:(0:Int) <= i:=by omega
  have hcb':(w.setCell ⟨g,2,none⟩ (Value.int U h2)).cell? ⟨b,off + i,none⟩ = some (O .u8 (l.getD i 0)):=by
   rw [World.cell?_setCell_other _ _ _ _ (by intro h;injection h with h1;omega)];exact hcb
  clear hcb
  generalize l.getD i 0 = v at hcb'
  go_quiet (fail)
  go_wp2_with fail
  go_quiet (fail)
  go_wp2_with fail
  go_ret
  refine ⟨_,rfl,KN _ 255 (by omega),?_,HA.out.gb (g:=g) ?_ (Nat.le_of_lt HB.out.lt) (lr _),i + 1,h2,by omega,?_⟩
  ·repeat (first | exact Aj _ _ | refine Ai ?_ _ _ | refine EY ?_ _)
  ·repeat (first | exact Aj _ _ | refine Ai ?_ _ _ | refine EY ?_ _)
  ·exact ((HB.out.set_ 2 (O U h2)).set_ 1 (O U ((i + 1:Nat):Int)))
 ·have hi':¬ (i:Int) < l.length:=by omega
  go_quiet (fail)
  go_wp2_with fail
  go_ret
  refine ⟨_,rfl,⟨x0,x1⟩,?_,HA.out.gb (g:=g) ?_ (Nat.le_of_lt HB.out.lt) (lr _),i,h2,by omega,?_⟩
  ·repeat (first | exact Aj _ _ | refine Ai ?_ _ _ | refine EY ?_ _)
  ·repeat (first | exact Aj _ _ | refine Ai ?_ _ _ | refine EY ?_ _)
  ·exact HB.out.set_ 2 (O U h2)
theorem Qg {x n:Int} (hx:0 <= x) (hn:1 <= n):0 <= x % n /\ x % n <= n - 1:=⟨Int.emod_nonneg _ (by omega),by have:=Int.emod_lt_of_pos x (show 0 < n by omega);omega⟩
theorem Ex (g:Nat) (A:Option Addr) (l:List Int) (cap:Nat) (n:Int) (w:World) (hn:l.length <= maxLen) (hc:Cur w g A l cap) (h1:1 <= n):
    Calls prog 84 #[.pointer (some ⟨g,0,none⟩),O U n] w (Num 0 (n - 1) w g A l cap):=by
 have HC:=hid hc
 have HN:=hid hn
 clear hc hn
 by_cases hs:n <= 256
 ·go_enter func84,ntmps84
  go_wp2_with fail
  refine (Ft g A l cap w HN.out HC.out).mono ?_;rintro e w1 ⟨x,rfl,⟨x0,x1⟩,gb1,c1⟩
  have G:=hid gb1
  have C:=hid c1
  clear gb1 c1
  go_wp2_with fail
  go_ret
  exact ⟨_,rfl,Qg x0 h1,G.out,C.out⟩
 ·go_enter func84,ntmps84
  go_wp2_with fail
  refine (Ft g A l cap w HN.out HC.out).mono ?_;rintro e w1 ⟨x,rfl,⟨x0,x1⟩,gb1,c1⟩
  have G1:=hid gb1
  have C1:=hid c1
  clear gb1 c1
  go_wp2_with fail
  refine (Ft g A l cap w1 HN.out C1.out).mono ?_;rintro e w2 ⟨y,rfl,⟨y0,y1⟩,gb2,c2⟩
  have G2:=hid gb2
  have C2:=hid c2
  clear gb2 c2
  go_wp2_with fail
  refine (Ft g A l cap w2 HN.out C2.out).mono ?_;rintro e w3 ⟨z,rfl,⟨z0,z1⟩,gb3,c3⟩
  have G3:=hid gb3
  have C3:=hid c3
  clear gb3 c3
  go_wp2_with fail
  refine (Ft g A l cap w3 HN.out C3.out).mono ?_;rintro e w4 ⟨v,rfl,⟨v0,v1⟩,gb4,c4⟩
  have G4:=hid gb4
  have C4:=hid c4
  clear gb4 c4
  go_wp2_with fail
  go_ret
  exact ⟨_,rfl,Qg (by omega) h1,Ar (Ar G1.out G2.out) (Ar G3.out G4.out),C4.out⟩
theorem Mw (a b:Int) (w:World):
    Calls prog 185 #[O U a,O U b] w fun e w'=>e = τ (O U (min a b)) /\ w = w':=by
 by_cases h:a < b
 ·rw [show min a b = a from by omega]
  go_enter func185,ntmps185
  go_wp2
  go_ret
  exact ⟨rfl,rfl⟩
 ·rw [show min a b = b from by omega]
  go_enter func185,ntmps185
  go_wp2
  go_ret
  exact ⟨rfl,rfl⟩
def Bit (w:World) (g:Nat) (A:Option Addr) (l:List Int) (cap:Nat) (e:Ending) (w':World):Prop:=
 ∃ v:Bool,e = τ (φ v) /\ w.grownBy w' (some g) /\ Cur w' g A l cap
theorem Il (g:Nat) (A:Option Addr) (l:List Int) (cap:Nat) (n:Int) (w:World) (hn:l.length <= maxLen) (hc:Cur w g A l cap) (h1:1 <= n):
    Calls prog 83 #[.pointer (some ⟨g,0,none⟩),O U n] w (Bit w g A l cap):=by
 have HC:=hid hc
 have HN:=hid hn
 clear hc hn
 go_enter func83,ntmps83
 go_wp2_with fail
 refine (Ex g A l cap n w HN.out HC.out h1).mono ?_;rintro e w1 ⟨x,rfl,⟨x0,x1⟩,gb1,c1⟩
 have G:=hid gb1
 have C:=hid c1
 clear gb1 c1
 go_wp2_with fail
 go_ret
 exact ⟨_,rfl,G.out,C.out⟩
theorem Cur.alloc {w:World} {g:Nat} {A:Option Addr} {l:List Int} {cap:Nat} (h:Cur w g A l cap) (o:Obj):Cur (w.alloc o) g A l cap:=
 h.gb (AZ (Aj w (some w.1.size)) o) h.lt
theorem Rj (g:Nat) (A:Option Addr) (l:List Int) (cap:Nat) (w:World) (hn:l.length <= maxLen) (hc:Cur w g A l cap):
    Calls prog 187 #[.pointer (some ⟨g,0,none⟩)] w (Num (-9223372036854775808) 9223372036854775807 w g A l cap):=by
 have HC:=hid hc
 have HN:=hid hn
 have hlt:=hc.lt
 clear hc hn
 go_enter func187,ntmps187
 go_wp2_with fail
 refine (Ex g A l cap 10 _ HN.out (HC.out.alloc _) (by omega)).mono ?_;rintro e w1 ⟨x,rfl,⟨x0,x1⟩,gb1,c1⟩
 have hblk:=(Aa.new w _ _).grown gb1 (by intro e;injection e with e;omega)
 obtain ⟨k,rfl⟩:=Int.eq_ofNat_of_zero_le x0
 obtain ⟨v,hv,hcell⟩:=Aa.some64 [-1,0,1,2147483648,-2147483648,1099511627776,4611686018427387904,-4611686018427387904,9223372036854775807,-9223372036854775808] hblk
  (by repeat (first | exact I64s.nil | refine I64s.cons (by omega) (by omega) ?_)) k (by simp;omega)
 have G:=hid (Ar (AZ (Aj w (some g)) _) gb1)
 have C:=hid c1
 clear gb1 c1 hblk
 go_wp2_with fail
 go_ret
 exact ⟨v,rfl,hv,G.out,C.out⟩
theorem Qw (g:Nat) (A:Option Addr) (l:List Int) (cap:Nat) (m:Int) (w:World) (hn:l.length <= maxLen) (hc:Cur w g A l cap) (h0:0 <= m) (h1:m <= 4611686018427387904):
    Calls prog 122 #[.pointer (some ⟨g,0,none⟩),O U m] w (Num (-9223372036854775808) 9223372036854775807 w g A l cap):=by
 have HC:=hid hc
 have HN:=hid hn
 have hlt:=hc.lt
 clear hc hn
 go_enter func122,ntmps122
 go_wp2_with fail
 refine (Il g A l cap 10 w HN.out HC.out (by omega)).mono ?_;rintro e w1 ⟨b1,rfl,gb1,c1⟩
 have G1:=hid gb1
 have C1:=hid c1
 clear gb1 c1
 rcases b1 with _ | _
 ·go_wp2_with fail
  refine (Il g A l cap 2 w1 HN.out C1.out (by omega)).mono ?_;rintro e w2 ⟨b2,rfl,gb2,c2⟩
  have G2:=hid (Ar G1.out gb2)
  have C2:=hid c2
  clear gb2 c2
  rcases b2 with _ | _
  ·go_wp2_with fail
   refine (Ex g A l cap (m + 1) w2 HN.out C2.out (by omega)).mono ?_;rintro e w3 ⟨x,rfl,⟨x0,x1⟩,gb3,c3⟩
   have G3:=hid (Ar G2.out gb3)
   have C3:=hid c3
   clear gb3 c3
   go_wp2_with fail
   go_ret
   exact ⟨x,rfl,⟨by omega,by omega⟩,G3.out,C3.out⟩
  ·go_wp2_with fail
   refine (Mw m 4 w2).mono ?_;rintro e w' ⟨rfl,rfl⟩
   obtain ⟨q,hq⟩:∃ q,q = min m 4:=⟨_,rfl⟩
   have q0:0 <= q:=by omega
   have q1:q <= 4:=by omega
   rw [<- hq]
   clear hq
   go_wp2_with fail
   refine (Ex g A l cap (q + 1) w2 HN.out C2.out (by omega)).mono ?_;rintro e w3 ⟨x,rfl,⟨x0,x1⟩,gb3,c3⟩
   have G3:=hid (Ar G2.out gb3)
   have C3:=hid c3
   clear gb3 c3
   go_wp2_with fail
   go_ret
   exact ⟨x,rfl,⟨by omega,by omega⟩,G3.out,C3.out⟩
 ·go_wp2_with fail
  refine (Rj g A l cap w1 HN.out C1.out).mono ?_;rintro e w2 ⟨o,rfl,⟨o0,o1⟩,gb2,c2⟩
  have hlt2:=c2.lt
  have G2:=hid (Ar G1.out gb2)
  have C2:=hid c2
  clear gb2 c2
  go_wp2_with fail
  refine (Ex g A l cap 4 _ HN.out (C2.out.alloc _) (by omega)).mono ?_;rintro e w3 ⟨x,rfl,⟨x0,x1⟩,gb3,c3⟩
  have hblk:=(Aa.new w2 _ _).grown gb3 (by intro e;injection e with e;omega)
  obtain ⟨k,rfl⟩:=Int.eq_ofNat_of_zero_le x0
  obtain ⟨v,hv,hcell⟩:=Aa.some64 [-1,m,m + 1,o] hblk
   (by repeat (first | exact I64s.nil | refine I64s.cons (by omega) (by omega) ?_)) k (by simp;omega)
  have G3:=hid (Ar G2.out (Ar (AZ (Aj w2 (some g)) _) gb3))
  have C3:=hid c3
  clear gb3 c3 hblk
  go_wp2_with fail
  go_ret
  exact ⟨v,rfl,hv,G3.out,C3.out⟩
theorem QC (A:Option Addr) (l:List Int) (cap:Nat) (w:World) (hn:l.length <= maxLen) (hA:Ints w .u8 w.1.size A l):
    Calls prog 46 #[ψ A l.length cap] w fun e w'=>e = τ (.pointer (some ⟨w.1.size,0,none⟩)) /\ Below w.1.size w w' /\ Cur w' w.1.size A l cap:=by
 unfold maxLen at hn
 have HA:=hid hA
 clear hA
 go_enter func46,ntmps46
 go_wp2_with fail
 go_loop [3,4] (fun h i=>∃ k:Nat,k <= l.length /\ i = O U k /\ ∃ H,h = O U H) (fun _ i=>l.length - (intOf i).toNat)
 case atStart=>exact ⟨0,Nat.zero_le _,rfl,_,rfl⟩
 case round=>
  obtain ⟨k,hk,rfl,H,rfl⟩:=hrel
  by_cases hlt:k < l.length
  ·obtain ⟨b,off,rfl,hb,hc⟩:=HA.out k hlt
   generalize l.getD k 0 = v at hc
   go_wp2_with fail
   go_round
   case rel=>exact ⟨k + 1,by omega,by go_num,_,rfl⟩
   case measure=>simp [intOf];omega
  ·go_wp2_with fail
   go_ret
   refine ⟨rfl,(Below.refl _ _).alloc (lr _) _,HA.out.below ((Below.refl _ _).alloc (lr _) _) (lr _),0,H,Nat.zero_le _,?_⟩
   exact Aa.new w _ _
theorem GF:(prog.info? 2).map (fun i=>(i.zero,i.size,i.bytes)) = some (some (O U 0),1,8):=by kernel_rfl
def St (v:World) (g:Nat) (A:Option Addr) (l:List Int) (cap:Nat) (w:World):Prop:=Below g v w /\ Cur w g A l cap
theorem St.drew {v w:World} {g:Nat} {A:Option Addr} {l:List Int} {cap:Nat} (h:St v g A l cap w):St v g A l cap w.drew:=⟨h.1.drew,h.2⟩
theorem St.alloc {v w:World} {g:Nat} {A:Option Addr} {l:List Int} {cap:Nat} (h:St v g A l cap w) (o:Obj):St v g A l cap (w.alloc o):=⟨h.1.alloc (Nat.le_of_lt h.2.lt) o,h.2.alloc o⟩
def NumS (lo hi:Int) (v w:World) (g:Nat) (A:Option Addr) (l:List Int) (cap:Nat) (e:Ending) (w':World):Prop:=
 ∃ x:Int,e = τ (O U x) /\ (lo <= x /\ x <= hi) /\ St v g A l cap w' /\ w.grownBy w' (some g)
theorem NumS.of {lo hi:Int} {v w w':World} {g:Nat} {A:Option Addr} {l:List Int} {cap:Nat} {e:Ending} (h:St v g A l cap w) (hx:Num lo hi w g A l cap e w'):NumS lo hi v w g A l cap e w':=by
 obtain ⟨x,he,hb,hg,hc⟩:=hx
 exact ⟨x,he,hb,⟨bgb h.1 hg (Nat.le_of_lt h.2.lt) (lr _),hc⟩,hg⟩
theorem Bp (v:World) (g:Nat) (A:Option Addr) (l:List Int) (cap:Nat) (n:Int) (w:World) (hn:l.length <= maxLen) (h:St v g A l cap w) (h1:1 <= n):
    Calls prog 84 #[.pointer (some ⟨g,0,none⟩),O U n] w (NumS 0 (n - 1) v w g A l cap):=
 (Ex g A l cap n w hn h.2 h1).mono fun _ _ hx=>NumS.of h hx
theorem NC (v:World) (g:Nat) (A:Option Addr) (l:List Int) (cap:Nat) (m:Int) (w:World) (hn:l.length <= maxLen) (h:St v g A l cap w) (h0:0 <= m) (h1:m <= 4611686018427387904):
    Calls prog 122 #[.pointer (some ⟨g,0,none⟩),O U m] w (NumS (-9223372036854775808) 9223372036854775807 v w g A l cap):=
 (Qw g A l cap m w hn h.2 h0 h1).mono fun _ _ hx=>NumS.of h hx
def Dice (w:World) (g:Nat) (A:Option Addr) (l:List Int) (cap:Nat):Prop:=
 Ints w .u8 g A l /\ ∃ (i:Nat) (h:Int),i <= l.length /\ Aa w g 113 #[ψ A l.length cap,O U i,O .u64 h]
theorem Dice.lt {w:World} {g:Nat} {A:Option Addr} {l:List Int} {cap:Nat} (h:Dice w g A l cap):g < w.1.size:=by
 obtain ⟨_,i,x,_,hb⟩:=h
 exact hb.lt
theorem Dice.below {w w':World} {g B:Nat} {A:Option Addr} {l:List Int} {cap:Nat} (h:Dice w g A l cap) (hb:Below B w w') (hg:g < B):Dice w' g A l cap:=by
 obtain ⟨hA,i,x,hi,hc⟩:=h
 exact ⟨hA.below hb (by omega),i,x,hi,hc.below hb hg⟩
def Sz (n:Int) (w:World) (g:Nat) (A:Option Addr) (l:List Int) (cap:Nat) (e:Ending) (w':World):Prop:=
 ∃ v:Int,e = τ (O U v) /\ (0 <= v /\ v <= n - 1) /\ w.grownBy w' (some g) /\ Dice w' g A l cap
theorem PU (A:Option Addr) (l:List Int) (cap:Nat) (s:Int) (w:World) (hn:l.length <= maxLen) (hA:Ints w .u8 w.1.size A l):
    Calls prog 35 #[ψ A l.length cap,O .u64 s] w fun e w'=>e = τ (.pointer (some ⟨w.1.size,0,none⟩)) /\ Below w.1.size w w' /\ Dice w' w.1.size A l cap:=by
 unfold maxLen at hn
 have HA:=hid hA
 clear hA
 go_enter func35,ntmps35
 go_wp2_with fail
 go_loopw [6] (fun i wr=>∃ (k:Nat) (h:Int),k <= l.length /\ i = O U k /\ Below w.1.size w wr /\ Aa wr w.1.size 113 #[ψ A l.length cap,O U 0,O .u64 h]) (fun i _=>l.length - (intOf i).toNat)
 case atStart=>exact ⟨0,_,Nat.zero_le _,rfl,(Below.refl _ _).alloc (lr _) _,Aa.new _ _ _⟩
 case round=>
  obtain ⟨k,h,hk,rfl,hbel,hblk⟩:=hrel
  have HB:=hid hbel
  have HK:=hid hblk
  have c2:wr.cell? ⟨w.1.size,2,none⟩ = some (O .u64 h):=hblk.cell 2
  have f2:=hblk.frozen 2
  have hAr:=HA.out.below hbel (lr _)
  clear hbel hblk
  by_cases hlt:k < l.length
  ·obtain ⟨b,off,rfl,hb,hc⟩:=hAr k hlt
   have hlt':(k:Int) < l.length:=by omega
   have hk0:(0:Int) <= k:=by omega
   clear hAr
   generalize l.getD k 0 = v at hc
   go_wp2_with fail
   go_region
   all_goals
    go_wp2_with fail
    go_roundw
    case rel=>
     exact ⟨k + 1,IntKind.u64.wrap (IntKind.u64.wrap (IntKind.u64.wrap (h * 1099511628211) + IntKind.u64.wrap v) + 3),by omega,by go_num,(HB.out.setCell (lr _) _).drew,(HK.out.set_ 2 _).drew⟩
    case measure=>simp [intOf];omega
  ·clear hAr
   go_wp2_with fail
   go_ret
   exact ⟨rfl,HB.out,HA.out.below HB.out (lr _),0,h,Nat.zero_le _,HK.out⟩
theorem Qj {x n:Int} (hx:0 <= x) (hn:1 <= n):0 <= x % n /\ x % n <= n - 1:=⟨Int.emod_nonneg _ (by omega),by have:=Int.emod_lt_of_pos x (show 0 < n by omega);omega⟩
theorem De (g:Nat) (A:Option Addr) (l:List Int) (cap:Nat) (n:Int) (w:World) (hn:l.length <= maxLen) (hc:Dice w g A l cap) (h8:∀ i,i < l.length -> 0 <= l.getD i 0 /\ l.getD i 0 <= 255) (n1:1 <= n):
    Calls prog 96 #[.pointer (some ⟨g,0,none⟩),O U n] w (Sz n w g A l cap):=by
 unfold maxLen at hn
 obtain ⟨hA,i,h,hi,hb⟩:=hc
 have c0:w.cell? ⟨g,0,none⟩ = some (ψ A l.length cap):=hb.cell 0
 have c1:w.cell? ⟨g,1,none⟩ = some (O U i):=hb.cell 1
 have c2:w.cell? ⟨g,2,none⟩ = some (O .u64 h):=hb.cell 2
 have f1:=hb.frozen 1
 have f2:=hb.frozen 2
 have HB:=hid hb
 have HA:=hid hA
 have H8:=hid h8
 clear hb hA h8
 go_enter func96,ntmps96
 go_wp2_with fail
 generalize IntKind.u64.wrap (IntKind.u64.wrap (h * 6364136223846793005) + 1442695040888963407) = h2
 have hx:=PL (h2 / 8589934592) 16777215 (by omega)
 rw [show ((16777215:Nat):Int) = 16777215 from rfl] at hx
 generalize bits BinOp.and IntKind.u64 (h2 / 8589934592) 16777215 = x at hx
 obtain ⟨x0,x1⟩:=hx
 rw [IntWalk.wrap64_in x (by omega)]
 by_cases hlt:i < l.length
 ·obtain ⟨b,off,rfl,hbg,hcb⟩:=HA.out i hlt
  have hi':(i:Int) < l.length:=by omega
  have hi0:(0:Int) <= i:=by omega
  have hcb':(w.setCell ⟨g,2,none⟩ (Value.int .u64 h2)).cell? ⟨b,off + i,none⟩ = some (O .u8 (l.getD i 0)):=by
   rw [World.cell?_setCell_other _ _ _ _ (by intro h;injection h with h1;omega)];exact hcb
  have hv:=H8.out i hlt
  clear hcb
  generalize l.getD i 0 = v at hcb' hv
  obtain ⟨v0,v1⟩:=hv
  go_quiet (fail)
  go_wp2_with fail
  go_quiet (fail)
  go_wp2_with fail
  go_ret
  refine ⟨_,rfl,Qj (x:=x + v) (by omega) n1,?_,HA.out.gb (g:=g) ?_ (Nat.le_of_lt HB.out.lt) (lr _),i + 1,h2,by omega,?_⟩
  ·repeat (first | exact Aj _ _ | refine Ai ?_ _ _ | refine EY ?_ _)
  ·repeat (first | exact Aj _ _ | refine Ai ?_ _ _ | refine EY ?_ _)
  ·exact ((HB.out.set_ 2 (O .u64 h2)).set_ 1 (O U ((i + 1:Nat):Int)))
 ·have hi':¬ (i:Int) < l.length:=by omega
  go_quiet (fail)
  go_wp2_with fail
  go_ret
  refine ⟨_,rfl,Qj x0 n1,?_,HA.out.gb (g:=g) ?_ (Nat.le_of_lt HB.out.lt) (lr _),i,h2,by omega,?_⟩
  ·repeat (first | exact Aj _ _ | refine Ai ?_ _ _ | refine EY ?_ _)
  ·repeat (first | exact Aj _ _ | refine Ai ?_ _ _ | refine EY ?_ _)
  ·exact HB.out.set_ 2 (O .u64 h2)
theorem Sx (A:Option Addr) (n cap:Nat) (w:World) (h:n <= 4096):
    Calls prog 8 #[ψ A n cap] w fun e w'=>e = τ (φ false) /\ w = w':=by
 have h':¬ (4096:Int) < n:=by omega
 go_enter func8,ntmps8
 go_wp2
 go_ret
 exact ⟨by simp,rfl⟩
theorem Si (A:Option Addr) (n cap:Nat) (w:World) (h:4096 < n):
    Calls prog 8 #[ψ A n cap] w fun e w'=>e = τ (φ true) /\ w = w':=by
 have h':(4096:Int) < n:=by omega
 go_enter func8,ntmps8
 go_wp2
 go_ret
 exact ⟨by simp,rfl⟩

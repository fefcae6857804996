import Derived.Test.YteoijmejhdocdaaGreatDoorV32
import Derived.Test.YteoijmejhdocdaaGreatDoorV30
namespace Go.Proofs.YteoijmejhdocdaaGreatDoor.Mx
open Go.ChangeShapes Go.WideShapes Go.ChangeAt Go.RowKit
set_option linter.unusedVariables false
open Go.Lib (hid)
open Go.Proofs.Tryz
set_option maxRecDepth 20000
set_option maxHeartbeats 64000000
open Value renaming int → O, slice → ψ, bool → φ, agg → σ
open IntKind renaming i64 → U
open Ending renaming returned → τ
theorem wrap_i64 (n:Int):I64 (IntKind.i64.wrap n):=by
 rw [IntKind.wrap_i64]
 unfold I64;omega
theorem Ro (key:Int) (l:List Int) (h:1 <= key) (h1:key <= 1000000):I64 (roll 131 2147483647 (7 + key) l * 2147483648 + roll 137 2147483629 (11 + 2 * key) l):=by
 have a:=DF 131 2147483647 (7 + key) l (by omega) (by omega) (by omega)
 have b:=DF 137 2147483629 (11 + 2 * key) l (by omega) (by omega) (by omega)
 unfold I64;omega
theorem QJ (key:Int) (l:List Int):I64 (Df key l):=by
 unfold Df
 split
 ·rename_i h;exact Ro key l h.1.1 h.1.2
 ·unfold I64;omega
theorem QS (key:Int) (l:List Int) (count:Int) (L:List Tru):I64 (Fa key l count L):=by
 unfold Fa
 split
 ·exact QJ _ _
 ·unfold I64;omega
theorem Cx.nil:Cx []:=fun i hi=>by simp at hi
theorem LD (key:Int) (l:List Int) (cnt:Int) (L:List Tru) (hL:Cx L) (h4:L.length <= 4):(Dq key l cnt L).2.1.length <= 4 /\ Cx (Dq key l cnt L).2.1 /\ I64 (Dq key l cnt L).1 /\ I64 (Dq key l cnt L).2.2:=by
 unfold Dq
 split
 ·rename_i h;exact ⟨h4,hL,by unfold I64;simp only [];omega,QS _ _ _ _⟩
 ·exact ⟨by simp,Cx.nil,by unfold I64;simp only [];omega,by unfold I64;simp only [];omega⟩
theorem VolN.Inv.slotN {x:VolN} (h:x.Inv) (stage:Int):(slotN x stage).Inv x.key x.counts:=by
 have hl:=h.2.1.2.1
 have h4:=h.1.2.1.2
 obtain ⟨a,b,c,d⟩:=LD x.key x.counts (x.count + 1) x.trusts h.2.1.i64 (by omega)
 refine ⟨.inr h.2.2.1,a,b,c,?_⟩
 unfold Mx.slotN
 simp only []
 split
 ·exact ⟨by decide,by decide⟩
 ·exact d
theorem Du {x:VolN} (h:x.Inv) (stage:Int):(Ah x stage).1.Inv:=by
 unfold Ah
 split
 ·exact h
 ·split
  ·exact h
  ·split
   ·exact h
   ·rename_i h1 h2 h3
    have hs:=h.slotN stage
    obtain ⟨a,b,c,d,e,f⟩:=h
    unfold Ep
    split
    ·exact ⟨a,b,c,by simp only [];split <;> omega,hs,f⟩
    ·exact ⟨a,b,c,by simp only [];split <;> omega,e,hs⟩
theorem Mc {key:Int} {l:List Int} {L:List Tru} (h:Ba key l L):Ba key l (L.map FJ):=by
 refine ⟨h.1,by rw [List.length_map];exact h.2.1,fun i hi=>?_⟩
 rw [List.length_map] at hi
 have e:(L.map FJ).getD i default = FJ (L.getD i default):=by
  rw [List.getD_eq_getElem?_getD,List.getD_eq_getElem?_getD,List.getElem?_map,List.getElem?_eq_getElem hi];rfl
 rw [e]
 exact h.2.2 i hi
theorem GU {key:Int} {l:List Int} {S:List SlN} {n:Int} {k:Nat} (h:BK key l S n = k):k < S.length /\ Bg key l n (S.getD k default) = true:=by
 unfold BK at h
 split at h
 ·rename_i hlt
  have e:S.findIdx (Bg key l n) = k:=by omega
  refine ⟨by omega,?_⟩
  have:=List.findIdx_getElem (w:=hlt)
  rw [List.getD_eq_getElem?_getD,List.getElem?_eq_getElem (by omega)]
  simp only [Option.getD_some]
  simpa [e] using this
 ·omega
theorem ME {key:Int} {l:List Int} {n:Int} {s:SlN} (h:Bg key l n s = true):Ba key l s.trusts /\ CP key l s.cells:=by
 unfold Bg Fv Ho Dj Dm at h
 simp only [Bool.and_eq_true,decide_eq_true_eq] at h
 exact ⟨h.1.1.1.1,h.1.2⟩
theorem GA {x:VolN} (h:x.Inv):(Bc x).1.Inv:=by
 have hch:=Gu x.key x.counts x.s0 x.s1 x.count
 obtain ⟨a,b,c,d,e,f⟩:=h
 unfold Bc
 split
 ·exact ⟨a,Mc b,c,d,e,f⟩
 ·split
  ·rename_i h1 h0
   obtain ⟨-,hk⟩:=GU (k:=0) (by rw [h0];rfl)
   obtain ⟨p,q⟩:=ME hk
   exact ⟨a,p,q,d,e,f⟩
  ·rename_i h1 h0
   obtain ⟨-,hk⟩:=GU (key:=x.key) (l:=x.counts) (S:=[x.s0,x.s1]) (n:=x.count) (k:=1) (by rcases hch with hc | hc | hc <;> omega)
   obtain ⟨p,q⟩:=ME hk
   exact ⟨a,p,q,d,e,f⟩
theorem IW {x:VolN} (h:x.Inv) (slot:Int):(Bw x slot).1.Inv:=by
 obtain ⟨a,b,c,d,e,f⟩:=h
 unfold Bw
 split
 ·exact ⟨a,b,c,d,⟨e.1,e.2.1,e.2.2.1,e.2.2.2.1,wrap_i64 _⟩,f⟩
 ·split
  ·exact ⟨a,b,c,d,e,⟨f.1,f.2.1,f.2.2.1,f.2.2.2.1,wrap_i64 _⟩⟩
  ·exact ⟨a,b,c,d,e,f⟩
theorem GC {x:VolN} (h:x.Inv) (a c0 c1:Int):(Eg x a c0 c1).1.Inv:=by
 unfold Eg
 split
 ·rename_i hc
  obtain ⟨p,q,r,s,t,u⟩:=h
  exact ⟨p,q,JL r hc.2,s,t,u⟩
 ·exact h
theorem Mi {x:VolN} (h:x.Inv) (a slot:Int):(Eu x a slot).1.Inv:=by
 unfold Eu
 split
 ·split
  ·exact GC h _ _ _
  ·exact h
 ·split
  ·split
   ·exact GC h _ _ _
   ·exact h
  ·exact h
theorem VolN.Inv.pos {x:VolN} (h:x.Inv):0 < x.trusts.length:=by
 have a:=h.1.2.1.1
 have b:=h.2.1.2.1
 omega
theorem Pf {key:Int}:∀ (L:List Tri) (s:Int),AU s -> (∀ x ∈ L,AU (Di key x.1 x.2.1 x.2.2)) -> AU (Es key s L):=by
 intro L
 induction L with
 | nil=>intro s h _;exact h
 | cons a L ih=>
   intro s h hL
   exact ih _ (EN h (hL a (List.mem_cons_self ..))) (fun x hx=>hL x (List.mem_cons_of_mem _ hx))
theorem JS {key f:Int} {n:Nat} (hk:Fc key) (h0:0 <= f) (h1:f + n <= 24) (hn:n <= 8):(∀ c ∈ Cj key f n,AO c.1 c.2) /\ ∀ x ∈ Cq key f n,AU (Di key x.1 x.2.1 x.2.2):=by
 have key1:∀ i:Nat,i < n -> isAt (f + i) /\ AO (Al key (f + i) (i + 1) 0).1 (Al key (f + i) (i + 1) 0).2:=by
  intro i hi
  have ha:isAt (f + i):=⟨by omega,by omega⟩
  exact ⟨ha,GL hk ha ⟨by omega,by omega⟩ ⟨by decide,by decide⟩⟩
 constructor
 ·intro c hc
  unfold Cj at hc
  obtain ⟨i,hi,rfl⟩:=List.mem_map.1 hc
  exact (key1 i (List.mem_range.1 hi)).2
 ·intro x hx
  unfold Cq at hx
  obtain ⟨i,hi,rfl⟩:=List.mem_map.1 hx
  obtain ⟨ha,hc⟩:=key1 i (List.mem_range.1 hi)
  exact ED hk ha hc
theorem MB {key:Int} {l:List Int} (hp:Ay key l) {r:Nat} (hr:r < l.length):0 <= upTo l r /\ upTo l r + (l.getD r 0).toNat <= 24 /\ (l.getD r 0).toNat <= 8 /\ 1 <= l.getD r 0:=by
 have a:=Dl hp.2.2.1 (k:=r) (by omega)
 have b:=Dd l hr
 have c:=Cy hp.2.2.1 (i:=r + 1) (j:=l.length) (by omega) (lr _)
 have d:=hp.2.2.2
 have e:=hp.2.2.1 r hr
 omega
theorem Qr {key:Int} {l:List Int} (hp:Ay key l) {r:Nat} (hr:r < l.length):Bk key l r (FU key l r):=by
 obtain ⟨a,b,c,d⟩:=MB hp hr
 have z:AU 0:=by unfold AU;omega
 refine ⟨hp,⟨by omega,by omega⟩,?_,⟨?_,?_⟩,⟨?_,?_⟩,fun _=>⟨rfl,rfl⟩,z,?_,z,z⟩
 ·unfold isTm FU;simp only [];omega
 ·exact Int.le_refl _
 ·show (0:Int) <= 1000;decide
 ·exact Int.le_refl _
 ·show (0:Int) <= l.getD ((r:Int)).toNat 0 - 1
  rw [Int.toNat_natCast];omega
 ·show AU (GI key (Cq key (upTo l r) (l.getD r 0).toNat))
  unfold GI
  rw [if_pos (show 1 <= key /\ key <= 1000000 from hp.1)]
  exact Pf _ 0 z (JS hp.1 a (by omega) c).2
theorem QV {α:Type} [Inhabited α] {L:List α} {i:Nat} (h:i < L.length):L.getD i default ∈ L:=by
 rw [List.getD_eq_getElem?_getD,List.getElem?_eq_getElem h];exact List.getElem_mem h
theorem PW {key:Int} {l:List Int} (hp:Ay key l):CP key l (Cw key l l.length):=by
 refine ⟨fun i hi=>?_,?_⟩
 ·have hm:=QV hi
  unfold Cw at hm
  obtain ⟨r,hr,hc⟩:=List.mem_flatMap.1 hm
  have hr':=List.mem_range.1 hr
  obtain ⟨a,b,c,d⟩:=MB hp hr'
  exact (JS hp.1 a (by omega) c).1 _ hc
 ·rw [JV hp.2.2.1 _ (lr _)]
  unfold Bi
  rw [if_pos hp]
theorem PR {key:Int} {l:List Int} (hp:Ay key l):Ba key l (Br key l l.length):=by
 refine ⟨hp,Ct _ _ _,fun i hi=>?_⟩
 rw [Ct] at hi
 rw [JQ key l hi]
 exact Qr hp hi
theorem Hp {key:Int} {l:List Int} (hp:Ay key l):(Cl key l).Inv:=by
 have hT:=PR hp
 have hC:=PW hp
 have h4:=hp.2.1.2
 obtain ⟨a,b,c,d⟩:=LD key l 1 (Br key l l.length) hT.i64 (by rw [Ct];exact h4)
 exact ⟨hp,hT,hC,(show (0:Int) <= 1 /\ (1:Int) <= 10000 by decide),⟨.inl rfl,by simp [Cl],Cx.nil,(show I64 0 from ⟨by decide,by decide⟩),(show I64 0 from ⟨by decide,by decide⟩)⟩,⟨.inr hC,a,b,c,d⟩⟩
noncomputable def Km (key:Int) (l:List Int):Option VolN:=open Classical in if Ay key l then some (Cl key l) else none
def Ans1 (b:World) (r:Option VolN) (e:Ending) (w':World):Prop:=∃ cs,e = τ (σ cs) /\ VolQ w' b.1.size r (σ cs) /\ Below b.1.size b w'
theorem JF (key:Int) (A:Option Addr) (l:List Int) (cap:Nat) (w:World) (hcap:l.length <= cap) (hn:l.length <= maxLen) (hA:Ints w U w.1.size A l):
    Calls prog 23 #[σ #[O U key,ψ A l.length cap]] w (Ans1 w (Km key l)):=by
 by_cases hp:Ay key l
 ·rw [show Km key l = some (Cl key l) from if_pos hp]
  refine (Gw key A l cap w hcap hA hp).mono ?_
  rintro e w' ⟨v,rfl,hv,hb⟩
  have hv2:=hv
  obtain ⟨_,_,_,_,_,_,_,_,_,_,_,_,_,_,_,rfl,-⟩:=hv2
  exact ⟨_,rfl,hv,hb⟩
 ·rw [show Km key l = none from if_neg hp]
  have PO:=hid (fun (u:World) (hb:Below w.1.size w u)=>AW key A l cap u hn ((hA.below hb (lr _)).more hb.size))
  rw [Dg hp] at PO
  have K0:=hid (show Kept w [(w.1.size + 1,31,#[O U 0,ψ none 0 0,ψ none 0 0,ψ none 0 0,ψ none 0 0,O U 0]),(w.1.size,26,#[O U key,ψ A l.length cap])] _ from (((Kept.refl w).put1 _ _ #[O U key,ψ A l.length cap] rfl).put1 _ _ #[O U 0,ψ none 0 0,ψ none 0 0,ψ none 0 0,ψ none 0 0,O U 0] (by simp)))
  clear hcap hn hA hp
  go_enter func23,ntmps23
  go_wp2_with fail
  obtain ⟨X0,Y0,X1,Y1,-⟩:=K0.out.rd
  go_wp2_with fail
  refine (PO.out _ K0.out.1).mono ?_;rintro e u1 ⟨rfl,hb1⟩
  have hk1:=K0.out.below hb1
  have lo0:w.1.size + 1 < u1.1.size:=hk1.lt (x:=(w.1.size + 1,31,#[O U 0,ψ none 0 0,ψ none 0 0,ψ none 0 0,ψ none 0 0,O U 0])) (by simp)
  clear hb1 X0 Y0 X1 Y1 PO K0
  obtain ⟨X0,Y0,X1,Y1,-⟩:=hk1.rd
  go_wp2_with fail
  obtain ⟨w9,e9,⟨d0,d1,d2,d3,d4,d5⟩,hb9,-⟩:=AN (w:=w) (x0:=O U 0) (x1:=ψ none 0 0) (x2:=ψ none 0 0) (x3:=ψ none 0 0) (x4:=ψ none 0 0) (x5:=O U 0) (hk1.at_ (p:=w.1.size + 1) (t:=31) (cs:=#[O U 0,ψ none 0 0,ψ none 0 0,ψ none 0 0,ψ none 0 0,O U 0]) (by simp)) hk1.1 (by omega)
  rw [e9]
  exact bodyPost_ret (v:=σ #[O U 0,ψ none 0 0,ψ none 0 0,ψ none 0 0,ψ none 0 0,O U 0]) (by simp [results,results23,go_sem,d0,d1,d2,d3,d4,d5]) rfl ⟨_,rfl,rfl,hb9⟩
theorem Se:prog.eqGuardType prog.depth 118 = false:=by kernel_rfl
theorem RD:prog.eqGuardType prog.depth 94 = false:=by kernel_rfl
theorem Fr (A C:Option Addr) (L:List Ce) (cap cap':Nat) (w:World) (hn:L.length <= 1048576) (hA:Ces w w.1.size A L) (hC:Ces w w.1.size C L):
    Calls prog 39 #[ψ A L.length cap,ψ C L.length cap'] w fun e w'=>e = τ (φ true) /\ Below w.1.size w w':=by
 have HA:=hid hA
 have HC:=hid hC
 clear hA hC
 go_enter func39,ntmps39
 go_wp2_with fail
 go_loopw [5] (fun i wr=>∃ k:Nat,k <= L.length /\ i = O U k /\ Below w.1.size w wr) (fun i _=>L.length - (intOf i).toNat)
 case atStart=>exact ⟨0,Nat.zero_le _,rfl,Below.refl _ _⟩
 case round=>
  obtain ⟨k,hk,rfl,hbel⟩:=hrel
  by_cases hlt:k < L.length
  ·obtain ⟨b,off,rfl,hb,hc0,hc1⟩:=(HA.out.below hbel (lr _)) k hlt
   obtain ⟨b',off',rfl,hb',hc0',hc1'⟩:=(HC.out.below hbel (lr _)) k hlt
   have HB:=hid hbel
   generalize (L.getD k (0,0)).1 = v0 at hc0 hc0'
   generalize (L.getD k (0,0)).2 = v1 at hc1 hc1'
   have hlt':(k:Int) < L.length:=by omega
   have k0':(0:Int) <= k:=by omega
   clear hbel hb hb' hk
   have hm:=Se
   go_upto_region 6 with fail
   go_region
   go_wp2_with fail
   go_roundw
   case rel=>exact ⟨k + 1,by omega,by go_num,HB.out.drew⟩
   case measure=>simp [intOf];omega
  ·have HB:=hid hbel
   have hlt':¬ (k:Int) < L.length:=by omega
   clear hbel
   go_wp2_with fail
   go_ret
   exact ⟨rfl,HB.out⟩
theorem Fd (A C:Option Addr) (L:List Tru) (cap cap':Nat) (w:World) (hn:L.length <= maxLen) (hA:Trs w w.1.size A L) (hC:Trs w w.1.size C L):
    Calls prog 40 #[ψ A L.length cap,ψ C L.length cap'] w fun e w'=>e = τ (φ true) /\ Below w.1.size w w':=by
 have hm0:=hn
 unfold maxLen at hm0
 have HA:=hid hA
 have HC:=hid hC
 clear hA hC hn
 go_enter func40,ntmps40
 go_wp2_with fail
 go_loopw [5] (fun i wr=>∃ k:Nat,k <= L.length /\ i = O U k /\ Below w.1.size w wr) (fun i _=>L.length - (intOf i).toNat)
 case atStart=>exact ⟨0,Nat.zero_le _,rfl,Below.refl _ _⟩
 case round=>
  obtain ⟨k,hk,rfl,hbel⟩:=hrel
  have HB:=hid hbel
  clear hbel
  by_cases hlt:k < L.length
  ·obtain ⟨b,off,rfl,hb,c0,c1,c2,c3,c4,c5,c6,c7⟩:=Trs.at_ (HA.out.below HB.out (lr _)) hlt
   obtain ⟨b',off',rfl,hb',d0,d1,d2,d3,d4,d5,d6,d7⟩:=Trs.at_ (HC.out.below HB.out (lr _)) hlt
   have hlt':(k:Int) < L.length:=by omega
   have k0':(0:Int) <= k:=by omega
   generalize L.getD k default = t at c0 c1 c2 c3 c4 c5 c6 c7 d0 d1 d2 d3 d4 d5 d6 d7
   obtain ⟨t0,t1,t2,t3,t4,t5,t6,t7⟩:=t
   simp only [] at c0 c1 c2 c3 c4 c5 c6 c7 d0 d1 d2 d3 d4 d5 d6 d7
   have hm:=RD
   clear hb hb' hk
   go_upto_region 6 with fail
   go_region
   go_wp2_with fail
   go_roundw
   case rel=>exact ⟨k + 1,by omega,by go_num,HB.out.drew⟩
   case measure=>simp [intOf];omega
  ·have hlt':¬ (k:Int) < L.length:=by omega
   go_wp2_with fail
   go_ret
   exact ⟨rfl,HB.out⟩
theorem LM (cnt mac:Int) (A C:Option Addr) (L:List Tru) (c c':Nat) (w:World) (hn:L.length <= maxLen) (hA:Trs w w.1.size A L) (hC:Trs w w.1.size C L):
    Calls prog 66 #[σ #[O U cnt,ψ A L.length c,O U mac],σ #[O U cnt,ψ C L.length c',O U mac]] w fun e w'=>e = τ (φ true) /\ Below w.1.size w w':=by
 have K0:=hid (show Kept w [(w.1.size + 1,89,#[O U cnt,ψ C L.length c',O U mac]),(w.1.size,89,#[O U cnt,ψ A L.length c,O U mac])] _ from (((Kept.refl w).put1 _ _ #[O U cnt,ψ A L.length c,O U mac] rfl).put1 _ _ #[O U cnt,ψ C L.length c',O U mac] (by simp)))
 have E:=hid (fun u (hb:Below w.1.size w u)=>Fd A C L c c' u hn ((hA.below hb (lr _)).more hb.size) ((hC.below hb (lr _)).more hb.size))
 clear hA hC hn
 go_enter func66,ntmps66
 go_wp2_with fail
 refine (E.out _ K0.out.1).mono ?_;rintro e w1 ⟨rfl,b1⟩
 have h1:=K0.out.below b1
 clear b1 K0 E
 obtain ⟨X0,Y0,X1,Y1,-⟩:=h1.rd
 have H1:=hid h1
 clear h1
 go_wp2_with fail
 go_ret
 exact ⟨rfl,H1.out.1⟩
open Go.RowKit
def OU (md:Region.Mode) (fl fn:List Bool) (l:List Oper):Bool:=
 (List.range l.length).all fun i=>match l[i]? with
  | none=>true
  | some o=>(match o.op with | .select _ _=>false | _=>true) && o.after.all (fun e=>!Region.binds md e || decide (e.on < i)) &&
    (List.range l.length).all (fun j=>j == i || match l[j]? with | some oj=>o.dst.isNone || o.dst != oj.dst | none=>true) &&
    (bif AH fl i || AH fn i then (o.guard.isNone || AH fn i) && o.op.operands.toList.all fun x=>match x with
     | .tmp t=>(List.range l.length).all fun j=>match l[j]? with | some oj=>oj.dst != some t || o.after.any (fun e=>Region.binds md e && e.on == j) | none=>true
     | _=>true
    else EJ o.op)
def Pr (fl fn fk:List Bool) (n:Nat):Bool:=(List.range n).all fun i=>(AH fk i == (AH fl i || AH fn i)) && !(AH fl i && AH fn i)
theorem Hd {fl fn fk:List Bool} {n i:Nat} (h:Pr fl fn fk n = true) (hi:i < n):AH fk i = (AH fl i || AH fn i) /\ ¬ (AH fl i = true /\ AH fn i = true):=by
 have h1:=List.all_eq_true.1 h i (List.mem_range.2 hi)
 simp only [Bool.and_eq_true,beq_iff_eq] at h1
 refine ⟨h1.1,fun h2=>?_⟩
 rw [h2.1,h2.2] at h1
 cases h1.2
def gam (fn:List Bool) (κ γ:Nat -> Value):Nat -> Value:=fun i=>bif AH fn i then κ i else γ i
def FE (P:Program) (C:(Nat -> Bool) -> (Nat -> Value) -> World -> Prop) (fl0:List Bool) (κ:Nat -> Value) (A:Act) (γ:Nat -> Value):Nat -> List Bool -> List Oper -> Prop
 | _,[],_=>True
 | _,_ :: _,[]=>True
 | k,false :: fn,_ :: l=>FE P C fl0 κ A γ (k + 1) fn l
 | k,true :: fn,o :: l=>(∀ D w,MQ .any fl0 o D -> C D γ w -> Bt P ((execOp A.eval o).run P w) (fun v w'=>v = κ k /\ C D γ w')) /\ FE P C fl0 κ A γ (k + 1) fn l
section
variable {P:Program} {C:(Nat -> Bool) -> (Nat -> Value) -> World -> Prop} {Sh:Nat -> Value -> Prop} {fl fn fk fl0:List Bool} {l:List Oper} {κ γ:Nat -> Value} {A:Act}
theorem Py (k:Nat):∀ (fn:List Bool) (l:List Oper),FE P C fl0 κ A γ k fn l -> ∀ i o,l[i]? = some o -> AH fn i = true ->
    ∀ D w,MQ .any fl0 o D -> C D γ w -> Bt P ((execOp A.eval o).run P w) (fun v w'=>v = κ (k + i) /\ C D γ w'):=by
 intro fn
 induction fn generalizing k with
 | nil=>intro l _ i o _ hf;cases hf
 | cons b fn ih=>
   intro l h i o hi hf
   cases l with
   | nil=>cases hi
   | cons o' l=>
     cases i with
     | zero=>
       have:b = true:=hf
       subst this
       simp only [List.getElem?_cons_zero,Option.some.injEq] at hi
       subst hi
       exact h.1
     | succ i=>
       have h':FE P C fl0 κ A γ (k + 1) fn l:=by cases b;exact h;exact h.2
       rw [show k + (i + 1) = k + 1 + i by omega]
       exact ih (k + 1) l h' i o (by simpa using hi) hf
theorem Fs {md:Region.Mode} (h:OU md fl fn l = true) {i:Nat} {o:Oper} (hi:l[i]? = some o):
    (∀ e ∈ o.after,Region.binds md e = true -> e.on < i) /\ (∀ j oj d,l[j]? = some oj -> j ≠ i -> o.dst = some d -> oj.dst ≠ some d) /\
    (AH fl i = false -> AH fn i = false -> EJ o.op = true) /\
    ((AH fl i || AH fn i) = true -> (AH fn i = false -> o.guard = none) /\ ∀ t,.tmp t ∈ o.op.operands.toList -> ∀ j oj,l[j]? = some oj -> oj.dst = some t -> ∃ e ∈ o.after,Region.binds md e = true /\ e.on = j) /\
    (∀ cs b,o.op ≠ .select cs b):=by
 unfold OU at h
 rw [List.all_eq_true] at h
 have hlt:i < l.length:=(List.getElem?_eq_some_iff.1 hi).1
 have h1:=h i (List.mem_range.2 hlt)
 simp only [hi,Bool.and_eq_true] at h1
 obtain ⟨⟨⟨hns,ha⟩,hd⟩,hs⟩:=h1
 refine ⟨fun e he hb=>?_,fun j oj d hj hne hod hoj=>?_,fun hf hk=>?_,fun hf=>?_,fun cs b he=>by rw [he] at hns;cases hns⟩
 ·have:=Array.all_eq_true_iff_forall_mem.1 ha e he
  simpa [hb] using this
 ·rw [List.all_eq_true] at hd
  have:=hd j (List.mem_range.2 (List.getElem?_eq_some_iff.1 hj).1)
  simp [hj,hne,hod,hoj] at this
 ·rw [hf,hk] at hs;exact hs
 ·rw [hf] at hs
  simp only [cond_true,Bool.and_eq_true] at hs
  refine ⟨fun hk=>by have:=hs.1;rw [hk] at this;simpa using this,fun t ht j oj hj hd2=>?_⟩
  have h3:=List.all_eq_true.1 hs.2 _ ht
  simp only [List.all_eq_true] at h3
  have h4:=h3 j (List.mem_range.2 (List.getElem?_eq_some_iff.1 hj).1)
  simp only [hj,hd2,bne_self_eq_false,Bool.false_or] at h4
  obtain ⟨e,he,hb⟩:=Array.any_eq_true'.1 h4
  simp only [Bool.and_eq_true,beq_iff_eq] at hb
  exact ⟨e,he,hb.1,hb.2⟩
theorem So {md:Region.Mode} (h:OU md fl fn l = true) {up:Array Bool} (hs:up.size = l.length) (h0:Region.ready md l.toArray up = []):∀ i,i < l.length -> up.getD i true = true:=by
 intro i
 induction i using Nat.strongRecOn with
 | _ i ih=>
   intro hi
   cases hu:up.getD i true with
   | true=>rfl
   | false=>
     exfalso
     obtain ⟨o,ho⟩:∃ o,l[i]? = some o:=⟨_,List.getElem?_eq_getElem hi⟩
     have:i ∈ Region.ready md l.toArray up:=by
      refine mem_ready.2 ⟨hu,o,by simpa using ho,fun e he hb=>?_⟩
      have hlt:=(Fs h ho).1 e he hb
      rw [Ea (by omega) false true]
      exact ih _ hlt (by omega)
     rw [h0] at this
     cases this
theorem Iv (b:Bool) (v:Value) (o:Oper) (ys:Nat -> Option Bool):Region.wanted (DE b v o) ys = Region.wanted o ys:=by
 unfold Region.wanted DE
 cases b <;> rfl
theorem Qp {Q:Exit -> Act -> World -> Prop} (AA:(Nat -> Value) -> Act) (hB:OU .any fl fn l = true) (hX:Pr fl fn fk l.length = true)
    (hloc:∀ D γ γ' w,(∀ i,D i = true -> γ i = γ' i) -> C D γ w -> C D γ' w)
    (hst:∀ γ,OkG Sh fl γ -> AY P C Sh fl (AA γ) γ 0 fl l) (hkn:∀ γ,OkG Sh fl γ -> FE P C fl κ (AA γ) γ 0 fn l)
    (hQ:∀ γ,OkG Sh fl γ -> ∀ D w',(∀ i,i < l.length -> AH fl i = true -> D i = true) -> C D γ w' -> Q .normal (AA γ) w') (fuel:Nat):
    ∀ (up:Array Bool) (a:Act) (D:Nat -> Bool) (γ:Nat -> Value) (w:World),up.size = l.length -> OkG Sh fl γ ->
      (∀ γ',OkG Sh fl γ' -> (∀ i,D i = true -> γ i = γ' i) -> ∀ D',wpAnyQ P .any (AP (gam fn κ γ') 0 fk l).toArray (C D' γ') (fun a'=>a' = AA γ') fuel up a) ->
      (∀ i,D i = (AH fl i && up.getD i false)) -> C D γ w -> wpAny P .any l.toArray Q fuel up a w:=by
 have fin:∀ (up:Array Bool) (D:Nat -> Bool) (γ:Nat -> Value) (w:World),up.size = l.length -> OkG Sh fl γ -> (∀ i,D i = (AH fl i && up.getD i false)) -> C D γ w ->
     Region.ready .any l.toArray up = [] -> Q .normal (AA γ) w:=by
  intro up D γ w hs hγ hD hC h0
  refine hQ γ hγ D w (fun i hi hf=>?_) hC
  rw [hD i,hf,Ea (by omega) false true,So hB hs h0 i hi]
  rfl
 induction fuel with
 | zero=>
   intro up a D γ w hs hγ H hD hC
   have h:=H γ hγ (fun _ _=>rfl) D
   have hr:Region.ready .any l.toArray up = []:=by rw [<- Ey (γ:=gam fn κ γ) (fl:=fk)];exact h.1
   refine ⟨hr,?_⟩
   rw [h.2]
   exact fin up D γ w hs hγ hD hC hr
 | succ f ih=>
   intro up a D γ w hs hγ H hD hC
   refine ⟨fun h0=>?_,fun i hi=>?_⟩
   ·rw [(H γ hγ (fun _ _=>rfl) D).1 (by rw [Ey];exact h0)]
    exact fin up D γ w hs hγ hD hC h0
   ·obtain ⟨hun,o,ho,hwait⟩:=mem_ready.1 hi
    have hol:l[i]? = some o:=by simpa using ho
    have hil:i < l.length:=(List.getElem?_eq_some_iff.1 hol).1
    have hs':(up.setIfInBounds i true).size = l.length:=by simpa using hs
    have hDi:D i = false:=by
     rw [hD i,Ea (by omega) false true,hun];simp
    have hget:∀ γ':Nat -> Value,(AP (gam fn κ γ') 0 fk l).toArray[i]? = some (DE (AH fk i) (gam fn κ γ' i) o):=fun γ'=>by rw [DZ,ho];rfl
    -- each takes the same step
    have hstep:∀ γ',OkG Sh fl γ' -> (∀ i,D i = true -> γ i = γ' i) -> ∀ D',∃ v,YieldsIn P (AP (gam fn κ γ') 0 fk l).toArray (C D' γ') (DE (AH fk i) (gam fn κ γ' i) o) v a /\
        wpAnyQ P .any (AP (gam fn κ γ') 0 fk l).toArray (C D' γ') (fun a'=>a' = AA γ') f (up.setIfInBounds i true) (a.put o.dst v):=by
     intro γ' h1 h2 D'
     obtain ⟨v,hy,hk⟩:=yieldsIn_of_qOp (hget γ') ((H γ' h1 h2 D').2 i (by rw [Ey];exact hi))
     rw [Ew] at hk
     exact ⟨v,hy,hk⟩
    have hendx:∀ γ' d,o.dst = some d -> ∀ j oj,(AP (gam fn κ γ') 0 fk l).toArray[j]? = some oj -> (up.setIfInBounds i true).getD j true = false -> ∀ d',oj.dst = some d' -> Operand.tmp d ≠ .tmp d':=by
     intro γ' d hd j oj hj hu d' hd' he
     injection he with he
     subst he
     rw [DZ] at hj
     obtain ⟨oj',hj',rfl⟩:=Option.map_eq_some_iff.1 hj
     rw [Ew] at hd'
     have hji:j ≠ i:=by
      rintro rfl
      have:(up.setIfInBounds j true).getD j true = true:=by simp [show j < up.size by omega]
      rw [this] at hu;cases hu
     exact (Fs hB hol).2.1 j oj' d (by simpa using hj') hji hd hd'
    cases hf:AH fl i with
    | false=>
      cases hn:AH fn i with
      | false=>
        have hp:EJ o.op = true:=(Fs hB hol).2.2.1 hf hn
        have hfk:AH fk i = false:=by rw [(Hd hX hil).1,hf,hn];rfl
        have hsame:∀ v,DE (AH fk i) v o = o:=fun v=>by rw [hfk];rfl
        obtain ⟨v,hy,hk⟩:=hstep γ hγ (fun _ _=>rfl) D
        rw [hsame] at hy
        have hall:∀ γ',OkG Sh fl γ' -> (∀ i,D i = true -> γ i = γ' i) -> ∀ D',wpAnyQ P .any (AP (gam fn κ γ') 0 fk l).toArray (C D' γ') (fun a'=>a' = AA γ') f (up.setIfInBounds i true) (a.put o.dst v):=by
         intro γ' h1 h2 D'
         obtain ⟨v1,hy1,hk1⟩:=hstep γ' h1 h2 D
         obtain ⟨v2,_,hk2⟩:=hstep γ' h1 h2 D'
         rw [hsame] at hy1
         have e1:v = v1:=YieldsIn.same hp ((Bu _).trans (Bu _).symm) hC (hloc D γ γ' w h2 hC) hy hy1
         subst e1
         suffices e:a.put o.dst v = a.put o.dst v2 by rw [e];exact hk2
         cases hd:o.dst with
         | none=>rfl
         | some d=>
           rw [hd] at hk1 hk2
           exact Ek a d v v2 ((Cn _ f _ _ (hendx γ' d hd) hk1).trans (Cn _ f _ _ (hendx γ' d hd) hk2).symm)
        have hq:qOp P l.toArray (C D γ) i (fun a'=>a' = a.put o.dst v) a:=by
         refine YieldsIn.qOp ho ?_ rfl
         rcases hy with ⟨hw,hv⟩ | ⟨hw,hv⟩
         ·left;rw [Bu] at hw;exact ⟨hw,hv⟩
         ·right;rw [Bu] at hw;exact ⟨hw,hv⟩
        refine wpOp_of_qOp hC (fun a' w' hw' ha'=>?_) hq
        subst ha'
        refine ih _ _ D γ w' hs' hγ hall (fun j=>?_) hw'
        rw [hD j]
        by_cases hij:i = j
        ·subst hij;rw [hf];simp
        ·rw [getD_set_ne false hij]
      | true=>
        have hfk:AH fk i = true:=by rw [(Hd hX hil).1,hf,hn];rfl
        have hsame:∀ γ',DE (AH fk i) (gam fn κ γ' i) o = DE true (κ i) o:=fun γ'=>by rw [hfk];unfold gam;rw [hn];rfl
        have hp:EJ (DE true (κ i) o).op = true:=rfl
        obtain ⟨v,hy,hk⟩:=hstep γ hγ (fun _ _=>rfl) D
        rw [hsame] at hy
        have hall:∀ γ',OkG Sh fl γ' -> (∀ i,D i = true -> γ i = γ' i) -> ∀ D',wpAnyQ P .any (AP (gam fn κ γ') 0 fk l).toArray (C D' γ') (fun a'=>a' = AA γ') f (up.setIfInBounds i true) (a.put o.dst v):=by
         intro γ' h1 h2 D'
         obtain ⟨v1,hy1,hk1⟩:=hstep γ' h1 h2 D
         obtain ⟨v2,_,hk2⟩:=hstep γ' h1 h2 D'
         rw [hsame] at hy1
         have e1:v = v1:=YieldsIn.same hp ((Bu _).trans (Bu _).symm) hC (hloc D γ γ' w h2 hC) hy hy1
         subst e1
         suffices e:a.put o.dst v = a.put o.dst v2 by rw [e];exact hk2
         cases hd:o.dst with
         | none=>rfl
         | some d=>
           rw [hd] at hk1 hk2
           exact Ek a d v v2 ((Cn _ f _ _ (hendx γ' d hd) hk1).trans (Cn _ f _ _ (hendx γ' d hd) hk2).symm)
        have hD':∀ j,D j = (AH fl j && (up.setIfInBounds i true).getD j false):=by
         intro j
         rw [hD j]
         by_cases hij:i = j
         ·subst hij;rw [hf];simp
         ·rw [getD_set_ne false hij]
        rcases hy with ⟨hw,hv⟩ | ⟨hw,hv⟩
        ·rw [Bu,Iv] at hw
         have hvk:v = κ i:=by
          have q':=hv w hC
          unfold Oper.quietAt at q'
          have hrun:(execOp a.eval (DE true (κ i) o)).run P w = .ok (.value (κ i)) w:=by unfold execOp DE;rfl
          rw [hrun] at q'
          exact q'.2.symm
         subst hvk
         obtain ⟨-,hrd⟩:=(Fs hB hol).2.2.2.1 (by rw [hn];simp)
         have hev:∀ z ∈ o.op.operands.toList,a.eval z = (AA γ).eval z:=by
          intro z hz
          refine Cn z (f + 1) up a (fun j oj hj hu d' hd' he=>?_) (H γ hγ (fun _ _=>rfl) D)
          subst he
          rw [DZ] at hj
          obtain ⟨oj',hj',rfl⟩:=Option.map_eq_some_iff.1 hj
          rw [Ew] at hd'
          obtain ⟨e,he,hb,hon⟩:=hrd d' hz j oj' (by simpa using hj') hd'
          have h3:=hwait e he hb
          rw [hon] at h3
          have hjlt:j < l.length:=by have:=(Array.getElem?_eq_some_iff.1 hj').1;simpa using this
          rw [Ea (by omega) false true,hu] at h3
          cases h3
         have hsel:∀ cs b,o.op ≠ .select cs b:=(Fs hB hol).2.2.2.2
         have hex:execOp a.eval o = execOp (AA γ).eval o:=execOp_congr o hsel (fun x hx=>hev x (by simpa using hx))
         have hstp:=Py 0 fn l (hkn γ hγ) i o hol hn D w (fun e2 he2 hb2 hf2=>by
             rw [hD,hf2];exact hwait e2 (by simpa using he2) hb2) hC
         rw [Nat.zero_add,<- hex] at hstp
         unfold wpOp
         simp only [ho,hw,if_true]
         left
         have hgo:∀ v w',v = κ i /\ C D γ w' -> wpAny P .any l.toArray Q f (up.setIfInBounds i true) (a.put o.dst v) w':=by
          rintro v w' ⟨rfl,hC'⟩
          exact ih _ _ D γ w' hs' hγ hall hD' hC'
         have hfin:=Gj hgo hstp
         unfold Oper.wp
         generalize (execOp a.eval o).run P w = r at *
         cases r with
         | halt x w'=>simp only [Bt] at hfin
         | ok n w'=>
           cases n <;> simp only [Bt] at hfin
           case value u=>exact hfin
           case skip=>exact hfin
           case enter g args=>exact hfin.mono fun e w'' ⟨v,he,hk⟩=>by subst he;exact hk
        ·rw [Bu,Iv] at hw
         have hq:qOp P l.toArray (C D γ) i (fun a'=>a' = a.put o.dst v) a:=YieldsIn.qOp ho (.inr ⟨hw,hv⟩) rfl
         refine wpOp_of_qOp hC (fun a' w' hw' ha'=>?_) hq
         subst ha'
         exact ih _ _ D γ w' hs' hγ hall hD' hw'
    | true=>
      have hn:AH fn i = false:=by cases h:AH fn i;rfl;exact absurd ⟨hf,h⟩ (Hd hX hil).2
      have hfk:AH fk i = true:=by rw [(Hd hX hil).1,hf];rfl
      have hgam:∀ γ',gam fn κ γ' i = γ' i:=fun γ'=>by unfold gam;rw [hn];rfl
      obtain ⟨hg0,hrd⟩:=(Fs hB hol).2.2.2.1 (by rw [hf];rfl)
      have hg:=hg0 hn
      have hev:∀ z ∈ o.op.operands.toList,a.eval z = (AA γ).eval z:=by
       intro z hz
       refine Cn z (f + 1) up a (fun j oj hj hu d' hd' he=>?_) (H γ hγ (fun _ _=>rfl) D)
       subst he
       rw [DZ] at hj
       obtain ⟨oj',hj',rfl⟩:=Option.map_eq_some_iff.1 hj
       rw [Ew] at hd'
       obtain ⟨e,he,hb,hon⟩:=hrd d' hz j oj' (by simpa using hj') hd'
       have h3:=hwait e he hb
       rw [hon] at h3
       have hjlt:j < l.length:=by have:=(Array.getElem?_eq_some_iff.1 hj').1;simpa using this
       rw [Ea (by omega) false true,hu] at h3
       cases h3
      have hsel:∀ cs b,o.op ≠ .select cs b:=(Fs hB hol).2.2.2.2
      have hex:execOp a.eval o = execOp (AA γ).eval o:=execOp_congr o hsel (fun x hx=>hev x (by simpa using hx))
      have hstp:=MK 0 fl l (hst γ hγ) i o hol hf D w (by rw [Nat.zero_add];exact hDi) (fun e2 he2 hb2 hf2=>by
          rw [hD,hf2];exact hwait e2 (by simpa using he2) hb2) hC
      rw [Nat.zero_add,<- hex] at hstp
      have hwant:Region.wanted o (yielded l.toArray a.tmps) = true:=by unfold Region.wanted;rw [hg]
      unfold wpOp
      simp only [ho,hwant,if_true]
      left
      have hgo:∀ v w',Sh i v /\ C (setD D i) (setG γ i v) w' -> wpAny P .any l.toArray Q f (up.setIfInBounds i true) (a.put o.dst v) w':=by
       intro v w' ⟨hv,hC'⟩
       refine ih _ _ (setD D i) (setG γ i v) w' hs' (fun j hj=>?_) (fun γ' h1 h2 D'=>?_) (fun j=>?_) hC'
       ·unfold setG
        by_cases hji:j = i
        ·subst hji;rw [if_pos rfl];exact hv
        ·rw [if_neg hji];exact hγ j hj
       ·have h2':∀ j,D j = true -> γ j = γ' j:=by
          intro j hj
          have hji:j ≠ i:=by rintro rfl;rw [hDi] at hj;cases hj
          have:=h2 j (by unfold setD;rw [hj];simp)
          unfold setG at this
          rwa [if_neg hji] at this
        have hvi:v = γ' i:=by
         have:=h2 i (by simp [setD])
         unfold setG at this
         rwa [if_pos rfl] at this
        obtain ⟨u1,hy1,hk1⟩:=hstep γ' h1 h2' D
        obtain ⟨u2,_,hk2⟩:=hstep γ' h1 h2' D'
        rw [hfk,hgam] at hy1
        have hu:γ' i = u1:=by
         rcases hy1 with ⟨_,q⟩ | ⟨g,_⟩
         ·have q':=q w (hloc D γ γ' w h2' hC)
          unfold Oper.quietAt at q'
          have hrun:(execOp a.eval (DE true (γ' i) o)).run P w = .ok (.value (γ' i)) w:=by unfold execOp DE;rfl
          rw [hrun] at q'
          exact q'.2
         ·exfalso
          have hgn:(DE true (γ' i) o).guard = none:=hg
          unfold Region.wanted at g;rw [hgn] at g;cases g
        rw [hvi,hu]
        suffices e:a.put o.dst u1 = a.put o.dst u2 by rw [e];exact hk2
        cases hd:o.dst with
        | none=>rfl
        | some d=>
          rw [hd] at hk1 hk2
          exact Ek a d u1 u2 ((Cn _ f _ _ (hendx γ' d hd) hk1).trans (Cn _ f _ _ (hendx γ' d hd) hk2).symm)
       ·unfold setD
        by_cases hij:i = j
        ·subst hij;simp [hf,show i < up.size by omega]
        ·rw [getD_set_ne false hij,hD j]
         simp [Ne.symm hij]
      have hfin:=Gj hgo hstp
      unfold Oper.wp
      generalize (execOp a.eval o).run P w = r at *
      cases r with
      | halt x w'=>simp only [Bt] at hfin
      | ok n w'=>
        cases n <;> simp only [Bt] at hfin
        case value u=>exact hfin
        case skip=>exact hfin
        case enter g args=>exact hfin.mono fun e w'' ⟨v,he,hk⟩=>by subst he;exact hk
theorem Kf {id:Nat} {Q:Exit -> Act -> World -> Prop} {a:Act} {w:World} {l:List Oper} (fl fn fk:List Bool) (κ:Nat -> Value) (Sh:Nat -> Value -> Prop) (C:(Nat -> Bool) -> (Nat -> Value) -> World -> Prop)
    (hm:P.follows .mixedOrders = true) (hS:OU .any fl fn l = true) (hX:Pr fl fn fk l.length = true) (hB:∀ γ,Region.lexB .any (AP (gam fn κ γ) 0 fk l).toArray = true)
    (hloc:∀ D γ γ' w,(∀ i,D i = true -> γ i = γ' i) -> C D γ w -> C D γ' w) (hinh:∀ i,∃ v,Sh i v) (hC:∀ γ,C (fun _=>false) γ w.drew)
    (H:∀ γ,OkG Sh fl γ -> ∃ A:Act,(∀ D,wpQuiet P (AP (gam fn κ γ) 0 fk l).toArray (C D γ) (fun a'=>a' = A) (AP (gam fn κ γ) 0 fk l) a) /\ AY P C Sh fl A γ 0 fl l /\ FE P C fl κ A γ 0 fn l /\
     (∀ D w',(∀ i,i < l.length -> AH fl i = true -> D i = true) -> C D γ w' -> Q .normal A w')):(Code.region id l.toArray true).wp P Q a w:=by
 classical
 refine wp_region_any hm ?_
 obtain ⟨γ0,h0⟩:∃ γ0:Nat -> Value,OkG Sh fl γ0:=⟨fun i=>Classical.choose (hinh i),fun i _=>Classical.choose_spec (hinh i)⟩
 let AA:(Nat -> Value) -> Act:=fun γ=>if h:OkG Sh fl γ then Classical.choose (H γ h) else a
 have hAA:∀ γ (h:OkG Sh fl γ),AA γ = Classical.choose (H γ h):=fun γ h=>dif_pos h
 have hA:∀ γ (h:OkG Sh fl γ),(∀ D,wpQuiet P (AP (gam fn κ γ) 0 fk l).toArray (C D γ) (fun a'=>a' = AA γ) (AP (gam fn κ γ) 0 fk l) a) /\ AY P C Sh fl (AA γ) γ 0 fl l /\ FE P C fl κ (AA γ) γ 0 fn l /\
     (∀ D w',(∀ i,i < l.length -> AH fl i = true -> D i = true) -> C D γ w' -> Q .normal (AA γ) w'):=fun γ h=>by rw [hAA γ h];exact Classical.choose_spec (H γ h)
 refine Qp AA hS hX hloc (fun γ h=>(hA γ h).2.1) (fun γ h=>(hA γ h).2.2.1) (fun γ h=>(hA γ h).2.2.2) _ _ _ (fun _=>false) γ0 _ (by simp) h0 (fun γ' h1 _ D'=>?_) (fun i=>?_) (hC γ0)
 ·have hlex:=hB γ'
  simp only [Region.lexB,Bool.and_eq_true] at hlex
  have:=wpAnyQ_lex (C:=C D' γ') (md:=.any) hlex.1 (AP (gam fn κ γ') 0 fk l) 0 (Array.replicate l.toArray.size false) a (by simp) (by simpa [Ee] using hlex.2) ((hA γ' h1).1 D')
  simpa [Ee] using this
 ·have:(Array.replicate l.toArray.size false).getD i false = false:=by
    rcases Nat.lt_or_ge i l.length with h' | h'
    ·simp [h']
    ·simp [h']
  rw [this];simp
end

import Derived.Test.YteoijmejhdocdaaGreatDoorV40
namespace Go.Proofs.YteoijmejhdocdaaGreatDoor.Mx
open Go.ChangeShapes Go.WideShapes Go.ChangeAt Go.RowKit
set_option linter.unusedVariables false
open Go.Lib (hid)
open Go.Proofs.Tryz
set_option maxRecDepth 20000
set_option maxHeartbeats 64000000
open Value renaming int → O, slice → ψ, bool → φ, agg → σ
open IntKind renaming i64 → U
open Ending renaming returned → τ
theorem EP {u u':World} {base p n size:Nat} {t ty:TypeId} {v:Value} {xs:List Value} {cs:Array Value} (h:u.ownsRow base ty size v n xs) (hc:Aa u p t cs) (hne:t ≠ ty) (hg:u.grownBy u' (some p)):u'.ownsRow base ty size v n xs:=by
 refine OW h (fun q e=>hg.block q (World.ownsRow.lt h q e).2 (fun e2=>?_))
 injection e2 with e2
 subst e2
 rcases h.2 with ⟨rfl,_⟩ | ⟨g,cap,cur,rfl,_,hk,_⟩
 ·cases e
 ·have e3:g = q:=by simpa [Value.ownBlock] using e
  subst e3
  unfold Aa at hc
  rw [hk] at hc
  simp only [Option.some.injEq,Obj.cells.injEq,and_true] at hc
  exact hne hc.2.symm
theorem VolO.keepT {u u':World} {base p:Nat} {t:TypeId} {cs:Array Value} {x:VolN} {v:Value} (h:VolO u base x v) (hc:Aa u p t cs) (h1:t ≠ 2) (h2:t ≠ 94) (h3:t ≠ 118) (h4:t ≠ 91) (hg:u.grownBy u' (some p)):VolO u' base x v:=by
 obtain ⟨A,c,B,d,C,e,g,A0,c0,C0,d0,A1,c1,C1,d1,rfl,r1,r2,r3,hb,hs,r4,r5,r6,r7,hp⟩:=h
 refine ⟨A,c,B,d,C,e,g,A0,c0,C0,d0,A1,c1,C1,d1,rfl,EP r1 hc h1 hg,EP r2 hc h2 hg,EP r3 hc h3 hg,hb,(hg.block g hs.lt ?_).trans hs,EP r4 hc h2 hg,EP r5 hc h3 hg,EP r6 hc h2 hg,EP r7 hc h3 hg,hp⟩
 intro e2
 injection e2 with e2
 subst e2
 unfold Aa at hc hs
 rw [hs] at hc
 simp only [Option.some.injEq,Obj.cells.injEq,and_true] at hc
 exact h4 hc.2.symm
def EG (v w:World) (g:Nat) (A:Option Addr) (l:List Int) (cap:Nat) (e:Ending) (w':World):Prop:=
 ∃ (x:VolG) (cs:Array Value),e = τ (σ cs) /\ (∀ u',Mid 0 w.1.size w' u' -> RdG u' u'.1.size x (σ cs)) /\ x.Short /\ x.Int64 /\ St v g A l cap w' /\ w.grownBy w' (some g)
def T12 (v w:World) (g:Nat) (Ac:Option Addr) (l:List Int) (cap bv:Nat) (y:VolN) (V VC:Array Value) (u:World):Prop:=
 KG w v g Ac l cap [(bv,31,VC),(w.1.size,31,#[O U 0,ψ none 0 0,ψ none 0 0,ψ none 0 0,ψ none 0 0,O U 0])] u /\ VolO u (w.1.size + 1) y (σ V) /\ w.1.size < bv
section
variable {v w u u':World} {g:Nat} {Ac:Option Addr} {l:List Int} {cap bv:Nat} {y:VolN} {V VC VC':Array Value}
theorem T12.step (h:T12 v w g Ac l cap bv y V VC u) (hs:St v g Ac l cap u') (hg:u.grownBy u' (some g)):T12 v w g Ac l cap bv y V VC u':=
 ⟨h.1.step hs hg,h.2.1.out hg (by have:=h.1.2.2.1;omega),h.2.2⟩
theorem T12.drew (h:T12 v w g Ac l cap bv y V VC u):T12 v w g Ac l cap bv y V VC u.drew:=⟨h.1.drew,h.2.1.below ⟨rfl,rfl,rfl,lr _,fun _ _=>rfl⟩,h.2.2⟩
theorem T12.box (h:T12 v w g Ac l cap bv y V VC u) (hg:u.grownBy u' (some bv)) (hc:Aa u' bv 31 VC'):T12 v w g Ac l cap bv y V VC' u':=by
 have hb:=h.1.at_ (p:=bv) (t:=31) (cs:=VC) (by simp)
 have hw:=h.2.2
 exact ⟨h.1.put (k:=0) rfl (by unfold Apart;simp;omega) hg hc,h.2.1.keepT hb (by decide) (by decide) (by decide) (by decide) hg,hw⟩
theorem T12.end_ {c0 c1 c2 c3 c4 c5:Value} (h:T12 v w g Ac l cap bv y V #[c0,c1,c2,c3,c4,c5] u):
    ∃ w4,((((((u.setCell ⟨w.1.size,0,none⟩ c0).setCell ⟨w.1.size,1,none⟩ c1).setCell ⟨w.1.size,2,none⟩ c2).setCell ⟨w.1.size,3,none⟩ c3).setCell ⟨w.1.size,4,none⟩ c4).setCell ⟨w.1.size,5,none⟩ c5) = w4 /\ (∀ i,w4.cell? ⟨w.1.size,i,none⟩ = #[c0,c1,c2,c3,c4,c5][i]?) /\ VolO w4 (w.1.size + 1) y (σ V) /\ St v g Ac l cap w4 /\ w.grownBy w4 (some g) /\ u.grownBy w4 (some w.1.size):=by
 have hw:=h.2.2
 have p1:=Ed (x0:=c0) (x1:=c1) (x2:=c2) (x3:=c3) (x4:=c4) (x5:=c5) (h.1.at_ (p:=w.1.size) (t:=31) (cs:=#[O U 0,ψ none 0 0,ψ none 0 0,ψ none 0 0,ψ none 0 0,O U 0]) (by simp))
 have k1:=h.1.put (k:=1) rfl (by unfold Apart;simp;omega) p1.2 p1.1
 exact ⟨_,rfl,p1.1.cell,h.2.1.out p1.2 (by omega),k1.2.1,k1.1,p1.2⟩
end
theorem Sls.drop1 {α:Type} [Inhabited α] {enc:α -> List Value} {n:Nat} {u:World} {B:Nat} {b off:Nat} {L:List α} (h:Sls enc n u B (some ⟨b,off,none⟩) L):Sls enc n u B (some ⟨b,off + n,none⟩) (L.drop 1):=by
 intro i hi
 rw [List.length_drop] at hi
 obtain ⟨b',off',e,h1,hc⟩:=h (i + 1) (by omega)
 injection e with e
 injection e with e1 e2 e3
 subst e1 e2
 refine ⟨_,_,rfl,h1,fun j hj=>?_⟩
 have:=hc j hj
 rw [show off + n + i * n + j = off + (i + 1) * n + j by rw [Nat.succ_mul];omega,this]
 rw [List.getD_eq_getElem?_getD,List.getD_eq_getElem?_getD,List.getElem?_drop,Nat.add_comm 1 i]
theorem Sls.nil0 {α:Type} [Inhabited α] {enc:α -> List Value} {n:Nat} {u:World} {B:Nat} {A:Option Addr} {L:List α} (h:L.length = 0):Sls enc n u B A L:=fun i hi=>by omega
theorem VolN.Inv.int64 {y:VolN} (h:y.Inv):Cx y.trusts /\ (y.s0.Fits /\ I64 y.s0.mac) /\ (y.s1.Fits /\ I64 y.s1.mac) /\ I64 y.count:=by
 have hs:=h.short
 obtain ⟨h1,h2,h3,h4,⟨-,-,a1,a2,a3⟩,⟨-,-,b1,b2,b3⟩⟩:=h
 exact ⟨h2.i64,⟨⟨hs.2.2.2.1,hs.2.2.2.2.1,a1,a2⟩,a3⟩,⟨⟨hs.2.2.2.2.2.1,hs.2.2.2.2.2.2,b1,b2⟩,b3⟩,by unfold I64;omega⟩
theorem VolO.lists {u:World} {base:Nat} {y:VolN} {A C B:Option Addr} {n0 n1 n2 c d e gS:Nat} {k m:Int} (h:VolO u base y (σ #[O U k,ψ A n0 c,ψ B n1 d,ψ C n2 e,ψ (some ⟨gS,0,none⟩) 2 2,O U m])):
    Ints u U u.1.size A y.counts /\ Trs u u.1.size B y.trusts /\ Cls u u.1.size C y.cells /\ DM u u.1.size (some ⟨gS,0,none⟩) [y.s0,y.s1] /\ (gS < u.1.size /\ Bq u u.1.size gS 4 y.s1) /\ y.counts.length <= c /\ y.trusts.length <= d /\ y.cells.length <= e:=by
 have hr:=h.reads
 obtain ⟨A1,c1,B1,d1,C1,e1,b1,o1,s1,eq,i1,i2,i3,i4,i5,i6,i7⟩:=hr
 injection eq with eq
 simp only [Array.mk.injEq,List.cons.injEq,Value.slice.injEq,Option.some.injEq,Addr.mk.injEq,true_and,and_true] at eq
 obtain ⟨-,⟨rfl,-,rfl⟩,⟨rfl,-,rfl⟩,⟨rfl,-,rfl⟩,⟨⟨rfl,rfl⟩,rfl⟩,-⟩:=eq
 obtain ⟨_,_,_,_,_,_,_,_,_,_,_,_,_,_,_,eq9,-,r2,r3,-⟩:=h
 injection eq9 with eq9
 simp only [Array.mk.injEq,List.cons.injEq,Value.slice.injEq,true_and,and_true] at eq9
 obtain ⟨-,-,⟨rfl,-,rfl⟩,⟨rfl,-,rfl⟩,-⟩:=eq9
 refine ⟨i1,i2,i3,fun i hi=>?_,⟨i4,by simpa using i6⟩,i7,?_,?_⟩
 ·simp only [List.length_cons,List.length_nil] at hi
  obtain rfl | rfl:i = 0 \/ i = 1:=by omega
  ·exact ⟨gS,0,rfl,i4,i5⟩
  ·exact ⟨gS,0,rfl,i4,by simpa using i6⟩
 ·rcases r2.2 with ⟨h0,_⟩ | ⟨_,_,_,h0,_,_,h5,_⟩ <;> simp only [Value.slice.injEq] at h0 <;> omega
 ·rcases r3.2 with ⟨h0,_⟩ | ⟨_,_,_,h0,_,_,h5,_⟩ <;> simp only [Value.slice.injEq] at h0 <;> omega
theorem My {u:World} {base ty size n c g:Nat} {xs:List Value} (h:u.ownsRow base ty size (ψ (some ⟨g,0,none⟩) n c) n xs):∃ cur,Aa u g ty cur:=by
 rcases h.2 with ⟨h0,_⟩ | ⟨g',cap,cur,e1,hb,hg,_⟩
 ·cases h0
 ·simp only [Value.slice.injEq,Option.some.injEq,Addr.mk.injEq,and_true,true_and] at e1
  obtain ⟨rfl,rfl⟩:=e1
  exact ⟨cur,hg⟩
theorem T12.row {v w u u':World} {g:Nat} {Ac:Option Addr} {l:List Int} {cap bv p ty:Nat} {y y':VolN} {V VC cur:Array Value} (h:T12 v w g Ac l cap bv y V VC u) (hg:u.grownBy u' (some p)) (hp:w.1.size + 1 <= p) (hc:Aa u p ty cur) (ht:ty ≠ 31) (hv:VolO u' (w.1.size + 1) y' (σ V)):T12 v w g Ac l cap bv y' V VC u':=by
 have hgw:=h.1.2.2.1
 refine ⟨⟨MZ h.1.1 hg (by omega),h.1.2.1.off hg (by omega),hgw,fun x hx=>⟨(h.1.2.2.2 x hx).1,(h.1.2.2.2 x hx).2.grown hg ?_⟩⟩,hv,h.2.2⟩
 intro e
 injection e with e
 have hx2:=(h.1.2.2.2 x hx).2
 have htx:x.2.1 = 31:=by simp at hx;rcases hx with rfl | rfl <;> rfl
 rw [e,htx] at hx2
 unfold Aa at hx2 hc
 rw [hc] at hx2
 simp only [Option.some.injEq,Obj.cells.injEq,and_true] at hx2
 exact ht hx2.2
theorem Kb (v:World) (g:Nat) (Ac:Option Addr) (l:List Int) (cap:Nat) (w:World) (hn:l.length <= 4096) (h:St v g Ac l cap w):
    Calls prog 47 #[.pointer (some ⟨g,0,none⟩)] w (EG v w g Ac l cap):=by
 have HN:=hid (show l.length <= maxLen by unfold maxLen;omega)
 have HM:=hid hn
 have K0:=hid ((KG.start h).put1 w.1.size 31 #[O U 0,ψ none 0 0,ψ none 0 0,ψ none 0 0,ψ none 0 0,O U 0] rfl)
 have Z0:=hid (show (w.alloc (.cells #[O U 0,ψ none 0 0,ψ none 0 0,ψ none 0 0,ψ none 0 0,O U 0] 31)).1.size = w.1.size + 1 by simp)
 clear hn h
 go_enter func47,ntmps47
 go_upto_region 1 with fail
 generalize World.alloc _ _ = w0 at K0 Z0 |-
 go_wp2_with fail
 refine (MU v g Ac l cap _ HM.out K0.out.2.1).mono ?_;rintro e9 w1 ⟨y,cs,rfl,hi,hv,s1,g1⟩
 have hk1:=K0.out.step s1 g1
 rw [Z0.out] at hv
 have hz1:w.1.size < w1.1.size:=hk1.lt (x:=(w.1.size,31,#[O U 0,ψ none 0 0,ψ none 0 0,ψ none 0 0,ψ none 0 0,O U 0])) (by simp)
 have hv0:=hv
 obtain ⟨A,c,B,d,C,e,gS,q0,q1,q2,q3,q4,q5,q6,q7,eq9,-⟩:=hv0
 injection eq9 with eq9
 subst eq9
 obtain ⟨gT,rfl,-,-,-,-⟩:=hv.trustsGet hi.pos
 have hcl:0 < y.cells.length:=by
  have h1:=hi.fit.2
  have h2:upTo y.counts 1 = upTo y.counts 0 + y.counts.getD 0 0:=Dd y.counts (show 0 < y.counts.length by have:=hi.1.2.1.1;omega)
  have h3:=Cy hi.1.2.2.1 (i:=1) (j:=y.counts.length) (by have:=hi.1.2.1.1;omega) (lr _)
  have h4:=(hi.1.2.2.1 0 (by have:=hi.1.2.1.1;omega)).1
  have h5:=DS y.counts
  omega
 obtain ⟨gC,rfl,-,-,-,-⟩:=hv.cellsGet hcl
 have htl:=hi.pos
 have hpt:=hv.lists
 have hce:y.cells.length <= e:=hpt.2.2.2.2.2.2.2
 have hte:y.trusts.length <= d:=hpt.2.2.2.2.2.2.1
 have hsh:=hi.short
 have hcn:=hsh.2.2.1
 have htn:=hsh.2.1
 have H64:=hid hi.int64
 have HSH:=hid hsh
 have SX:=hid (show Qh [y.s0,y.s1] from by
  intro i hi
  obtain ⟨x1,x2,x3,x4,x5,x6,x7⟩:=HSH.out
  simp only [List.length_cons,List.length_nil] at hi
  obtain rfl | rfl:i = 0 \/ i = 1:=by omega
  ·exact ⟨x4,x5⟩
  ·exact ⟨x6,x7⟩)
 have SY:=hid (show ∀ i,i < [y.s0,y.s1].length -> ([y.s0,y.s1].getD i default).Fits /\ I64 ([y.s0,y.s1].getD i default).mac from by
  intro i hi
  obtain ⟨z1,z2,z3,z4⟩:=H64.out
  simp only [List.length_cons,List.length_nil] at hi
  obtain rfl | rfl:i = 0 \/ i = 1:=by omega
  ·exact z2
  ·exact z3)
 have k2:=hk1.put1 w1.1.size 31 #[O U y.key,ψ A y.counts.length c,ψ (some ⟨gT,0,none⟩) y.trusts.length d,ψ (some ⟨gC,0,none⟩) y.cells.length e,ψ (some ⟨gS,0,none⟩) 2 2,O U y.count] rfl
 have hv2:=hv.below ((Below.refl _ _).alloc (lr _) (.cells #[O U y.key,ψ A y.counts.length c,ψ (some ⟨gT,0,none⟩) y.trusts.length d,ψ (some ⟨gC,0,none⟩) y.cells.length e,ψ (some ⟨gS,0,none⟩) 2 2,O U y.count] 31))
 have H2:=hid (show T12 v w g Ac l cap w1.1.size y #[O U y.key,ψ A y.counts.length c,ψ (some ⟨gT,0,none⟩) y.trusts.length d,ψ (some ⟨gC,0,none⟩) y.cells.length e,ψ (some ⟨gS,0,none⟩) 2 2,O U y.count] #[O U y.key,ψ A y.counts.length c,ψ (some ⟨gT,0,none⟩) y.trusts.length d,ψ (some ⟨gC,0,none⟩) y.cells.length e,ψ (some ⟨gS,0,none⟩) 2 2,O U y.count] _ from ⟨k2,hv2,hz1⟩)
 clear hi hv hpt k2 hv2 s1 g1 hk1 K0 Z0 hsh
 go_upto_region 2 with fail
 generalize World.alloc w1 _ = w2 at H2 |-
 generalize w1.1.size = bv at H2 hz1 |-
 have ZFIN:∀ w4,VolO w4 (w.1.size + 1) y (σ #[O U y.key,ψ A y.counts.length c,ψ (some ⟨gT,0,none⟩) y.trusts.length d,ψ (some ⟨gC,0,none⟩) y.cells.length e,ψ (some ⟨gS,0,none⟩) 2 2,O U y.count]) -> St v g Ac l cap w4 -> w.grownBy w4 (some g) -> EG v w g Ac l cap (τ (σ #[O U y.key,ψ A y.counts.length c,ψ (some ⟨gT,0,none⟩) y.trusts.length d,ψ (some ⟨gC,0,none⟩) y.cells.length e,ψ (some ⟨gS,0,none⟩) 2 2,O U y.count])) w4:=fun w4 h1 h2 h3=>by
  obtain ⟨z1,z2,z3,z4⟩:=H64.out
  obtain ⟨x1,x2,x3,x4,x5,x6,x7⟩:=HSH.out
  exact ⟨y.toG,_,rfl,(fun u' hm=>by
   obtain ⟨p1,p2,p3,p4,p5,p6,p7,p8⟩:=(h1.mid hm (by omega)).lists
   exact ⟨A,c,_,d,_,e,_,2,rfl,p1,p2,p3,p4,p6,lr _⟩),⟨x1,x2,x3,by simp [VolN.toG],SX.out⟩,⟨z1,SY.out,z4⟩,h2,h3⟩
 have ZF:=hid ZFIN
 clear ZFIN
 go_wp2_with fail
 refine (FM v g Ac l cap 8 w2 HN.out H2.out.1.2.1 (by omega)).mono ?_;rintro e9 w3 ⟨b,rfl,s3,g3⟩
 have H3:=hid (H2.out.step s3 g3)
 clear s3 g3 H2
 rcases b with _ | _
 ·obtain ⟨X0,Y0,X1,Y1,-⟩:=H3.out.1.rd
  go_wp2_with fail
  obtain ⟨w9,e9,d9,h9,s9,g9,-⟩:=H3.out.end_
  rw [e9]
  have F9:=hid (ZF.out w9 h9 s9 g9)
  clear e9 h9 s9 g9 X0 Y0 X1 Y1
  exact bodyPost_ret (v:=σ #[O U y.key,ψ A y.counts.length c,ψ (some ⟨gT,0,none⟩) y.trusts.length d,ψ (some ⟨gC,0,none⟩) y.cells.length e,ψ (some ⟨gS,0,none⟩) 2 2,O U y.count]) (by simp [results,results47,go_sem,d9]) rfl F9.out
 ·go_wp2_with fail
  refine (Bp v g Ac l cap 7 w3 HN.out H3.out.1.2.1 (by omega)).mono ?_;rintro e9 w4 ⟨n,rfl,⟨n0,n1⟩,s4,g4⟩
  have H4:=hid (H3.out.step s4 g4)
  clear s4 g4 H3
  have hn9:n = 0 \/ n = 1 \/ n = 2 \/ n = 3 \/ n = 4 \/ n = 5 \/ n = 6:=by omega
  clear n0 n1
  rcases hn9 with rfl | rfl | rfl | rfl | rfl | rfl | rfl
  ·have hle:(1:Int) <= y.cells.length:=by omega
   have hle2:(y.cells.length:Int) <= e:=by omega
   have hle3:(e:Int) <= e:=by omega
   have hcp:(1:Int) <= e:=by omega
   by_cases hz:e - 1 = 0
   ·have HN1:=hid (show y.cells.length - 1 = 0 by omega)
    obtain ⟨X0,Y0,X1,Y1,-⟩:=H4.out.1.rd
    go_upto_region 18 with fail
    have hg6:=Ai (Aj w4 (some bv)) 3 (ψ (some ⟨gC,0,none⟩) (y.cells.length - 1) 0)
    have H6:=hid (show T12 v w g Ac l cap bv y #[O U y.key,ψ A y.counts.length c,ψ (some ⟨gT,0,none⟩) y.trusts.length d,ψ (some ⟨gC,0,none⟩) y.cells.length e,ψ (some ⟨gS,0,none⟩) 2 2,O U y.count] #[O U y.key,ψ A y.counts.length c,ψ (some ⟨gT,0,none⟩) y.trusts.length d,ψ (some ⟨gC,0,none⟩) (y.cells.length - 1) 0,ψ (some ⟨gS,0,none⟩) 2 2,O U y.count] _ from H4.out.box hg6 ((H4.out.1.at_ (p:=bv) (t:=31) (cs:=#[O U y.key,ψ A y.counts.length c,ψ (some ⟨gT,0,none⟩) y.trusts.length d,ψ (some ⟨gC,0,none⟩) y.cells.length e,ψ (some ⟨gS,0,none⟩) 2 2,O U y.count]) (by simp)).set_ 3 _))
    clear hg6 X0 Y0 X1 Y1 H4 hle hle2 hle3 hcp hz
    generalize World.setCell _ _ _ = w6 at H6 |-
    obtain ⟨kd0,kg0,kd1,kg1,-⟩:=H6.out.1.rd
    go_wp2_with fail
    obtain ⟨w9,e9,d9,h9,s9,g9,-⟩:=H6.out.end_
    rw [e9]
    clear e9
    have F9:=hid (show EG v w g Ac l cap (τ (σ #[O U y.key,ψ A y.counts.length c,ψ (some ⟨gT,0,none⟩) y.trusts.length d,ψ (some ⟨gC,0,none⟩) (y.cells.length - 1) 0,ψ (some ⟨gS,0,none⟩) 2 2,O U y.count])) w9 from by
     obtain ⟨z1,z2,z3,z4⟩:=H64.out
     obtain ⟨x1,x2,x3,x4,x5,x6,x7⟩:=HSH.out
     exact ⟨{ y.toG with cells:=y.cells.drop 1 },_,rfl,(fun u' hm=>by
      obtain ⟨p1,p2,p3,p4,p5,p6,p7,p8⟩:=(h9.mid hm (by omega)).lists
      exact ⟨A,c,some ⟨gT,0,none⟩,d,some ⟨gC,0,none⟩,0,some ⟨gS,0,none⟩,2,by simp [VolN.toG],p1,p2,Sls.nil0 (by rw [List.length_drop];exact HN1.out),p4,p6,lr _⟩),⟨x1,x2,by simp only [List.length_drop];omega,by simp [VolN.toG],SX.out⟩,⟨z1,SY.out,z4⟩,s9,g9⟩)
    clear kd0 kg0 kd1 kg1
    exact bodyPost_ret (v:=σ #[O U y.key,ψ A y.counts.length c,ψ (some ⟨gT,0,none⟩) y.trusts.length d,ψ (some ⟨gC,0,none⟩) (y.cells.length - 1) 0,ψ (some ⟨gS,0,none⟩) 2 2,O U y.count]) (by simp [results,results47,go_sem,d9]) rfl F9.out
   ·have hz2:¬ e <= 1:=by omega
    obtain ⟨X0,Y0,X1,Y1,-⟩:=H4.out.1.rd
    go_upto_region 18 with fail
    have hg6:=Ai (Aj w4 (some bv)) 3 (ψ (some ⟨gC,2,none⟩) (y.cells.length - 1) (e - 1))
    have H6:=hid (show T12 v w g Ac l cap bv y #[O U y.key,ψ A y.counts.length c,ψ (some ⟨gT,0,none⟩) y.trusts.length d,ψ (some ⟨gC,0,none⟩) y.cells.length e,ψ (some ⟨gS,0,none⟩) 2 2,O U y.count] #[O U y.key,ψ A y.counts.length c,ψ (some ⟨gT,0,none⟩) y.trusts.length d,ψ (some ⟨gC,2,none⟩) (y.cells.length - 1) (e - 1),ψ (some ⟨gS,0,none⟩) 2 2,O U y.count] _ from H4.out.box hg6 ((H4.out.1.at_ (p:=bv) (t:=31) (cs:=#[O U y.key,ψ A y.counts.length c,ψ (some ⟨gT,0,none⟩) y.trusts.length d,ψ (some ⟨gC,0,none⟩) y.cells.length e,ψ (some ⟨gS,0,none⟩) 2 2,O U y.count]) (by simp)).set_ 3 _))
    clear hg6 X0 Y0 X1 Y1 H4 hle hle2 hle3 hcp hz hz2
    generalize World.setCell _ _ _ = w6 at H6 |-
    obtain ⟨kd0,kg0,kd1,kg1,-⟩:=H6.out.1.rd
    go_wp2_with fail
    obtain ⟨w9,e9,d9,h9,s9,g9,-⟩:=H6.out.end_
    rw [e9]
    clear e9
    have F9:=hid (show EG v w g Ac l cap (τ (σ #[O U y.key,ψ A y.counts.length c,ψ (some ⟨gT,0,none⟩) y.trusts.length d,ψ (some ⟨gC,2,none⟩) (y.cells.length - 1) (e - 1),ψ (some ⟨gS,0,none⟩) 2 2,O U y.count])) w9 from by
     obtain ⟨z1,z2,z3,z4⟩:=H64.out
     obtain ⟨x1,x2,x3,x4,x5,x6,x7⟩:=HSH.out
     exact ⟨{ y.toG with cells:=y.cells.drop 1 },_,rfl,(fun u' hm=>by
      obtain ⟨p1,p2,p3,p4,p5,p6,p7,p8⟩:=(h9.mid hm (by omega)).lists
      exact ⟨A,c,some ⟨gT,0,none⟩,d,some ⟨gC,2,none⟩,e - 1,some ⟨gS,0,none⟩,2,by simp [VolN.toG],p1,p2,(by have:=p3.drop1;rwa [Nat.zero_add] at this),p4,p6,lr _⟩),⟨x1,x2,by simp only [List.length_drop];omega,by simp [VolN.toG],SX.out⟩,⟨z1,SY.out,z4⟩,s9,g9⟩)
    clear kd0 kg0 kd1 kg1
    exact bodyPost_ret (v:=σ #[O U y.key,ψ A y.counts.length c,ψ (some ⟨gT,0,none⟩) y.trusts.length d,ψ (some ⟨gC,2,none⟩) (y.cells.length - 1) (e - 1),ψ (some ⟨gS,0,none⟩) 2 2,O U y.count]) (by simp [results,results47,go_sem,d9]) rfl F9.out
  ·have hle:(1:Int) <= y.trusts.length:=by omega
   have hle2:(y.trusts.length:Int) <= d:=by omega
   have hle3:(d:Int) <= d:=by omega
   have hcp:(1:Int) <= d:=by omega
   by_cases hz:d - 1 = 0
   ·have HN1:=hid (show y.trusts.length - 1 = 0 by omega)
    obtain ⟨X0,Y0,X1,Y1,-⟩:=H4.out.1.rd
    go_upto_region 18 with fail
    have hg6:=Ai (Aj w4 (some bv)) 2 (ψ (some ⟨gT,0,none⟩) (y.trusts.length - 1) 0)
    have H6:=hid (show T12 v w g Ac l cap bv y #[O U y.key,ψ A y.counts.length c,ψ (some ⟨gT,0,none⟩) y.trusts.length d,ψ (some ⟨gC,0,none⟩) y.cells.length e,ψ (some ⟨gS,0,none⟩) 2 2,O U y.count] #[O U y.key,ψ A y.counts.length c,ψ (some ⟨gT,0,none⟩) (y.trusts.length - 1) 0,ψ (some ⟨gC,0,none⟩) y.cells.length e,ψ (some ⟨gS,0,none⟩) 2 2,O U y.count] _ from H4.out.box hg6 ((H4.out.1.at_ (p:=bv) (t:=31) (cs:=#[O U y.key,ψ A y.counts.length c,ψ (some ⟨gT,0,none⟩) y.trusts.length d,ψ (some ⟨gC,0,none⟩) y.cells.length e,ψ (some ⟨gS,0,none⟩) 2 2,O U y.count]) (by simp)).set_ 2 _))
    clear hg6 X0 Y0 X1 Y1 H4 hle hle2 hle3 hcp hz
    generalize World.setCell _ _ _ = w6 at H6 |-
    obtain ⟨kd0,kg0,kd1,kg1,-⟩:=H6.out.1.rd
    go_wp2_with fail
    obtain ⟨w9,e9,d9,h9,s9,g9,-⟩:=H6.out.end_
    rw [e9]
    clear e9
    have F9:=hid (show EG v w g Ac l cap (τ (σ #[O U y.key,ψ A y.counts.length c,ψ (some ⟨gT,0,none⟩) (y.trusts.length - 1) 0,ψ (some ⟨gC,0,none⟩) y.cells.length e,ψ (some ⟨gS,0,none⟩) 2 2,O U y.count])) w9 from by
     obtain ⟨z1,z2,z3,z4⟩:=H64.out
     obtain ⟨x1,x2,x3,x4,x5,x6,x7⟩:=HSH.out
     exact ⟨{ y.toG with trusts:=y.trusts.drop 1 },_,rfl,(fun u' hm=>by
      obtain ⟨p1,p2,p3,p4,p5,p6,p7,p8⟩:=(h9.mid hm (by omega)).lists
      exact ⟨A,c,some ⟨gT,0,none⟩,0,some ⟨gC,0,none⟩,e,some ⟨gS,0,none⟩,2,by simp [VolN.toG],p1,Sls.nil0 (by rw [List.length_drop];exact HN1.out),p3,p4,p6,lr _⟩),⟨x1,by simp only [List.length_drop];omega,x3,by simp [VolN.toG],SX.out⟩,⟨z1.drop 1,SY.out,z4⟩,s9,g9⟩)
    clear kd0 kg0 kd1 kg1
    exact bodyPost_ret (v:=σ #[O U y.key,ψ A y.counts.length c,ψ (some ⟨gT,0,none⟩) (y.trusts.length - 1) 0,ψ (some ⟨gC,0,none⟩) y.cells.length e,ψ (some ⟨gS,0,none⟩) 2 2,O U y.count]) (by simp [results,results47,go_sem,d9]) rfl F9.out
   ·have hz2:¬ d <= 1:=by omega
    obtain ⟨X0,Y0,X1,Y1,-⟩:=H4.out.1.rd
    go_upto_region 18 with fail
    have hg6:=Ai (Aj w4 (some bv)) 2 (ψ (some ⟨gT,8,none⟩) (y.trusts.length - 1) (d - 1))
    have H6:=hid (show T12 v w g Ac l cap bv y #[O U y.key,ψ A y.counts.length c,ψ (some ⟨gT,0,none⟩) y.trusts.length d,ψ (some ⟨gC,0,none⟩) y.cells.length e,ψ (some ⟨gS,0,none⟩) 2 2,O U y.count] #[O U y.key,ψ A y.counts.length c,ψ (some ⟨gT,8,none⟩) (y.trusts.length - 1) (d - 1),ψ (some ⟨gC,0,none⟩) y.cells.length e,ψ (some ⟨gS,0,none⟩) 2 2,O U y.count] _ from H4.out.box hg6 ((H4.out.1.at_ (p:=bv) (t:=31) (cs:=#[O U y.key,ψ A y.counts.length c,ψ (some ⟨gT,0,none⟩) y.trusts.length d,ψ (some ⟨gC,0,none⟩) y.cells.length e,ψ (some ⟨gS,0,none⟩) 2 2,O U y.count]) (by simp)).set_ 2 _))
    clear hg6 X0 Y0 X1 Y1 H4 hle hle2 hle3 hcp hz hz2
    generalize World.setCell _ _ _ = w6 at H6 |-
    obtain ⟨kd0,kg0,kd1,kg1,-⟩:=H6.out.1.rd
    go_wp2_with fail
    obtain ⟨w9,e9,d9,h9,s9,g9,-⟩:=H6.out.end_
    rw [e9]
    clear e9
    have F9:=hid (show EG v w g Ac l cap (τ (σ #[O U y.key,ψ A y.counts.length c,ψ (some ⟨gT,8,none⟩) (y.trusts.length - 1) (d - 1),ψ (some ⟨gC,0,none⟩) y.cells.length e,ψ (some ⟨gS,0,none⟩) 2 2,O U y.count])) w9 from by
     obtain ⟨z1,z2,z3,z4⟩:=H64.out
     obtain ⟨x1,x2,x3,x4,x5,x6,x7⟩:=HSH.out
     exact ⟨{ y.toG with trusts:=y.trusts.drop 1 },_,rfl,(fun u' hm=>by
      obtain ⟨p1,p2,p3,p4,p5,p6,p7,p8⟩:=(h9.mid hm (by omega)).lists
      exact ⟨A,c,some ⟨gT,8,none⟩,d - 1,some ⟨gC,0,none⟩,e,some ⟨gS,0,none⟩,2,by simp [VolN.toG],p1,(by have:=p2.drop1;rwa [Nat.zero_add] at this),p3,p4,p6,lr _⟩),⟨x1,by simp only [List.length_drop];omega,x3,by simp [VolN.toG],SX.out⟩,⟨z1.drop 1,SY.out,z4⟩,s9,g9⟩)
    clear kd0 kg0 kd1 kg1
    exact bodyPost_ret (v:=σ #[O U y.key,ψ A y.counts.length c,ψ (some ⟨gT,8,none⟩) (y.trusts.length - 1) (d - 1),ψ (some ⟨gC,0,none⟩) y.cells.length e,ψ (some ⟨gS,0,none⟩) 2 2,O U y.count]) (by simp [results,results47,go_sem,d9]) rfl F9.out
  ·obtain ⟨X0,Y0,X1,Y1,-⟩:=H4.out.1.rd
   go_upto_region 18 with fail
   have hg6:=Ai (Aj w4 (some bv)) 4 (ψ (some ⟨gS,4,none⟩) 1 1)
   have H6:=hid (show T12 v w g Ac l cap bv y #[O U y.key,ψ A y.counts.length c,ψ (some ⟨gT,0,none⟩) y.trusts.length d,ψ (some ⟨gC,0,none⟩) y.cells.length e,ψ (some ⟨gS,0,none⟩) 2 2,O U y.count] #[O U y.key,ψ A y.counts.length c,ψ (some ⟨gT,0,none⟩) y.trusts.length d,ψ (some ⟨gC,0,none⟩) y.cells.length e,ψ (some ⟨gS,4,none⟩) 1 1,O U y.count] _ from H4.out.box hg6 ((H4.out.1.at_ (p:=bv) (t:=31) (cs:=#[O U y.key,ψ A y.counts.length c,ψ (some ⟨gT,0,none⟩) y.trusts.length d,ψ (some ⟨gC,0,none⟩) y.cells.length e,ψ (some ⟨gS,0,none⟩) 2 2,O U y.count]) (by simp)).set_ 4 _))
   clear hg6 X0 Y0 X1 Y1 H4
   generalize World.setCell _ _ _ = w6 at H6 |-
   obtain ⟨kd0,kg0,kd1,kg1,-⟩:=H6.out.1.rd
   go_wp2_with fail
   obtain ⟨w9,e9,d9,h9,s9,g9,-⟩:=H6.out.end_
   rw [e9]
   clear e9
   have F9:=hid (show EG v w g Ac l cap (τ (σ #[O U y.key,ψ A y.counts.length c,ψ (some ⟨gT,0,none⟩) y.trusts.length d,ψ (some ⟨gC,0,none⟩) y.cells.length e,ψ (some ⟨gS,4,none⟩) 1 1,O U y.count])) w9 from by
    obtain ⟨z1,z2,z3,z4⟩:=H64.out
    obtain ⟨x1,x2,x3,x4,x5,x6,x7⟩:=HSH.out
    exact ⟨{ y.toG with slots:=[y.s1] },_,rfl,(fun u' hm=>by
     obtain ⟨p1,p2,p3,p4,p5,p6,p7,p8⟩:=(h9.mid hm (by omega)).lists
     exact ⟨A,c,_,d,_,e,some ⟨gS,4,none⟩,1,rfl,p1,p2,p3,(fun i hi=>by simp at hi;subst hi;exact ⟨gS,4,rfl,p5.1,p5.2⟩),p6,lr _⟩),⟨x1,x2,x3,by simp,(by intro i hi;simp at hi;subst hi;exact ⟨x6,x7⟩)⟩,⟨z1,(by intro i hi;simp at hi;subst hi;exact z3),z4⟩,s9,g9⟩)
   clear kd0 kg0 kd1 kg1
   exact bodyPost_ret (v:=σ #[O U y.key,ψ A y.counts.length c,ψ (some ⟨gT,0,none⟩) y.trusts.length d,ψ (some ⟨gC,0,none⟩) y.cells.length e,ψ (some ⟨gS,4,none⟩) 1 1,O U y.count]) (by simp [results,results47,go_sem,d9]) rfl F9.out
  ·go_wp2_with fail
   refine (NC v g Ac l cap 10000 w4 HN.out H4.out.1.2.1 (by omega) (by omega)).mono ?_;rintro e9 w5 ⟨x,rfl,ix,s5,g5⟩
   have H5:=hid (H4.out.step s5 g5)
   have IX:=hid (show I64 x from ⟨by omega,by omega⟩)
   clear s5 g5 H4 ix
   obtain ⟨X0,Y0,X1,Y1,-⟩:=H5.out.1.rd
   go_upto_region 18 with fail
   have hg6:=Ai (Aj w5 (some bv)) 5 (O U x)
   have H6:=hid (show T12 v w g Ac l cap bv y #[O U y.key,ψ A y.counts.length c,ψ (some ⟨gT,0,none⟩) y.trusts.length d,ψ (some ⟨gC,0,none⟩) y.cells.length e,ψ (some ⟨gS,0,none⟩) 2 2,O U y.count] #[O U y.key,ψ A y.counts.length c,ψ (some ⟨gT,0,none⟩) y.trusts.length d,ψ (some ⟨gC,0,none⟩) y.cells.length e,ψ (some ⟨gS,0,none⟩) 2 2,O U x] _ from H5.out.box hg6 ((H5.out.1.at_ (p:=bv) (t:=31) (cs:=#[O U y.key,ψ A y.counts.length c,ψ (some ⟨gT,0,none⟩) y.trusts.length d,ψ (some ⟨gC,0,none⟩) y.cells.length e,ψ (some ⟨gS,0,none⟩) 2 2,O U y.count]) (by simp)).set_ 5 _))
   clear hg6 X0 Y0 X1 Y1 H5
   generalize World.setCell _ _ _ = w6 at H6 |-
   obtain ⟨kd0,kg0,kd1,kg1,-⟩:=H6.out.1.rd
   go_wp2_with fail
   obtain ⟨w9,e9,d9,h9,s9,g9,-⟩:=H6.out.end_
   rw [e9]
   clear e9
   have F9:=hid (show EG v w g Ac l cap (τ (σ #[O U y.key,ψ A y.counts.length c,ψ (some ⟨gT,0,none⟩) y.trusts.length d,ψ (some ⟨gC,0,none⟩) y.cells.length e,ψ (some ⟨gS,0,none⟩) 2 2,O U x])) w9 from by
    obtain ⟨z1,z2,z3,z4⟩:=H64.out
    obtain ⟨x1,x2,x3,x4,x5,x6,x7⟩:=HSH.out
    exact ⟨{ y.toG with count:=x },_,rfl,(fun u' hm=>by
     obtain ⟨p1,p2,p3,p4,p5,p6,p7,p8⟩:=(h9.mid hm (by omega)).lists
     exact ⟨A,c,_,d,_,e,_,2,rfl,p1,p2,p3,p4,p6,lr _⟩),⟨x1,x2,x3,by simp [VolN.toG],SX.out⟩,⟨z1,SY.out,IX.out⟩,s9,g9⟩)
   clear kd0 kg0 kd1 kg1
   exact bodyPost_ret (v:=σ #[O U y.key,ψ A y.counts.length c,ψ (some ⟨gT,0,none⟩) y.trusts.length d,ψ (some ⟨gC,0,none⟩) y.cells.length e,ψ (some ⟨gS,0,none⟩) 2 2,O U x]) (by simp [results,results47,go_sem,d9]) rfl F9.out
  ·have hle:(0:Int) < y.cells.length:=by omega
   go_upto_region 13 with fail
   have HD4:=hid H4.out.drew
   obtain ⟨X0,Y0,X1,Y1,-⟩:=HD4.out.1.rd
   go_region_with (go_at_call 123;refine (Kz v g Ac l cap _ HN.out HD4.out.1.2.1).mono ?_;rintro e9 w5 ⟨t,z,rfl,it,iz,s5,g5⟩;have H5:=hid (HD4.out.step s5 g5);obtain ⟨mc0,mf0,mc1,mf1,-⟩:=H5.out.1.rd;obtain ⟨gC',eg,hgb,-,hrC,hsC⟩:=H5.out.2.1.cellsGet hcl;injection eg with eg;injection eg with eg;subst eg;obtain ⟨q0,q1⟩:=hrC.here hcl;have qf:=Dw hrC;have SC:=hid hsC;have RC:=hid hrC;have GB:=hid hgb;rw [Nat.zero_mul] at q0 q1;clear s5 g5 hrC hsC it iz hgb)
   all_goals
    have hr6:=RC.out.set_ hcl (t,z)
    have hg6:=Ai (Ai (Aj w5 (some gC)) (0 * 2) (O U t)) (0 * 2 + 1) (O U z)
    have hv6:=SC.out _ (y.cells.set 0 (t,z)) (by simp) hg6 (by rw [List.length_set];exact hr6)
    obtain ⟨cur,hcur⟩:=My RC.out
    have H6:=hid (H5.out.row hg6 GB.out hcur (by decide) hv6)
    clear hr6 hg6 hv6 hcur X0 Y0 X1 Y1 mc0 mf0 mc1 mf1 q0 q1 qf RC SC
    simp only [Nat.zero_mul,Nat.zero_add] at H6
    go_upto_region 18 with fail
    generalize World.setCell _ _ _ = w6 at H6 |-
    obtain ⟨kd0,kg0,kd1,kg1,-⟩:=H6.out.1.rd
    go_wp2_with fail
    obtain ⟨w9,e9,d9,h9,s9,g9,-⟩:=H6.out.end_
    rw [e9]
    clear e9
    have F9:=hid (show EG v w g Ac l cap (τ (σ #[O U y.key,ψ A y.counts.length c,ψ (some ⟨gT,0,none⟩) y.trusts.length d,ψ (some ⟨gC,0,none⟩) y.cells.length e,ψ (some ⟨gS,0,none⟩) 2 2,O U y.count])) w9 from by
     obtain ⟨z1,z2,z3,z4⟩:=H64.out
     obtain ⟨x1,x2,x3,x4,x5,x6,x7⟩:=HSH.out
     exact ⟨{ y.toG with cells:=y.cells.set 0 (t,z) },_,rfl,(fun u' hm=>by
      obtain ⟨p1,p2,p3,p4,p5,p6,p7,p8⟩:=(h9.mid hm (by omega)).lists
      exact ⟨A,c,some ⟨gT,0,none⟩,d,some ⟨gC,0,none⟩,e,some ⟨gS,0,none⟩,2,by simp [VolN.toG],p1,p2,p3,p4,p6,lr _⟩),⟨x1,x2,by simpa using x3,by simp [VolN.toG],SX.out⟩,⟨z1,SY.out,z4⟩,s9,g9⟩)
    clear kd0 kg0 kd1 kg1
    exact bodyPost_ret (v:=σ #[O U y.key,ψ A y.counts.length c,ψ (some ⟨gT,0,none⟩) y.trusts.length d,ψ (some ⟨gC,0,none⟩) y.cells.length e,ψ (some ⟨gS,0,none⟩) 2 2,O U y.count]) (by simp [results,results47,go_sem,d9]) rfl F9.out
  ·have hle:(0:Int) < y.trusts.length:=by omega
   go_upto_region 15 with fail
   have HD4:=hid H4.out.drew
   obtain ⟨X0,Y0,X1,Y1,-⟩:=HD4.out.1.rd
   go_region_with (go_at_call 48;refine (ID v g Ac l cap (-1) 4 _ HN.out HD4.out.1.2.1 (by omega) (by omega) (by omega)).mono ?_;rintro e9 w5 ⟨x,rfl,ix,s5,g5⟩;have H5:=hid (HD4.out.step s5 g5);obtain ⟨mc0,mf0,mc1,mf1,-⟩:=H5.out.1.rd;obtain ⟨gT',eg,hgb,-,hrT,hsT⟩:=H5.out.2.1.trustsGet htl;injection eg with eg;injection eg with eg;subst eg;have q2:=(hrT.here htl).2.2.1;have qf:=Dw hrT;have ST:=hid hsT;have RT:=hid hrT;have GB:=hid hgb;have IX:=hid (show I64 x from ⟨by omega,by omega⟩);rw [Nat.zero_mul] at q2;clear s5 g5 hrT hsT ix hgb)
   all_goals
    have hr6:=RT.out.set1 htl (j:=2) (by omega) { y.trusts.getD 0 default with cursor:=x } (O U x) rfl
    have hg6:=Ai (Aj w5 (some gT)) (0 * 8 + 2) (O U x)
    have hv6:=ST.out _ (y.trusts.set 0 { y.trusts.getD 0 default with cursor:=x }) (by simp) hg6 (by rw [List.length_set];exact hr6)
    obtain ⟨cur,hcur⟩:=My RT.out
    have H6:=hid (H5.out.row hg6 GB.out hcur (by decide) hv6)
    clear hr6 hg6 hv6 hcur X0 Y0 X1 Y1 mc0 mf0 mc1 mf1 q2 qf RT ST
    simp only [Nat.zero_mul,Nat.zero_add] at H6
    go_upto_region 18 with fail
    generalize World.setCell _ _ _ = w6 at H6 |-
    obtain ⟨kd0,kg0,kd1,kg1,-⟩:=H6.out.1.rd
    go_wp2_with fail
    obtain ⟨w9,e9,d9,h9,s9,g9,-⟩:=H6.out.end_
    rw [e9]
    clear e9
    have F9:=hid (show EG v w g Ac l cap (τ (σ #[O U y.key,ψ A y.counts.length c,ψ (some ⟨gT,0,none⟩) y.trusts.length d,ψ (some ⟨gC,0,none⟩) y.cells.length e,ψ (some ⟨gS,0,none⟩) 2 2,O U y.count])) w9 from by
     obtain ⟨z1,z2,z3,z4⟩:=H64.out
     obtain ⟨x1,x2,x3,x4,x5,x6,x7⟩:=HSH.out
     exact ⟨{ y.toG with trusts:=y.trusts.set 0 { y.trusts.getD 0 default with cursor:=x } },_,rfl,(fun u' hm=>by
      obtain ⟨p1,p2,p3,p4,p5,p6,p7,p8⟩:=(h9.mid hm (by omega)).lists
      exact ⟨A,c,some ⟨gT,0,none⟩,d,some ⟨gC,0,none⟩,e,some ⟨gS,0,none⟩,2,by simp [VolN.toG],p1,p2,p3,p4,p6,lr _⟩),⟨x1,by simpa using x2,x3,by simp [VolN.toG],SX.out⟩,⟨z1.set 0 (by obtain ⟨a0,a1,a2,a3,a4,a5,a6⟩:=z1 0 htl;exact ⟨a0,a1,IX.out,a3,a4,a5,a6⟩),SY.out,z4⟩,s9,g9⟩)
    clear kd0 kg0 kd1 kg1
    exact bodyPost_ret (v:=σ #[O U y.key,ψ A y.counts.length c,ψ (some ⟨gT,0,none⟩) y.trusts.length d,ψ (some ⟨gC,0,none⟩) y.cells.length e,ψ (some ⟨gS,0,none⟩) 2 2,O U y.count]) (by simp [results,results47,go_sem,d9]) rfl F9.out
  ·go_wp2_with fail
   refine (Ld v g Ac l cap w4 HN.out H4.out.1.2.1).mono ?_;rintro e9 w5 ⟨key,qv,zs,rfl,h5,hr5,s5,g5⟩
   obtain ⟨Q,cq,rfl,-,hcq⟩:=hr5.reads_cap
   have H5:=hid (H4.out.step s5 g5)
   have hbv4:=H4.out.1.lt (x:=(bv,31,#[O U y.key,ψ A y.counts.length c,ψ (some ⟨gT,0,none⟩) y.trusts.length d,ψ (some ⟨gC,0,none⟩) y.cells.length e,ψ (some ⟨gS,0,none⟩) 2 2,O U y.count])) (by simp)
   have hw4:=H4.out.2.2
   clear s5 g5 H4
   obtain ⟨X0,Y0,X1,Y1,-⟩:=H5.out.1.rd
   go_upto_region 18 with fail
   have hg6:=Ai (Ai (Aj w5 (some bv)) 0 (O U key)) 1 (ψ Q zs.length cq)
   have H6:=hid (show T12 v w g Ac l cap bv y #[O U y.key,ψ A y.counts.length c,ψ (some ⟨gT,0,none⟩) y.trusts.length d,ψ (some ⟨gC,0,none⟩) y.cells.length e,ψ (some ⟨gS,0,none⟩) 2 2,O U y.count] #[O U key,ψ Q zs.length cq,ψ (some ⟨gT,0,none⟩) y.trusts.length d,ψ (some ⟨gC,0,none⟩) y.cells.length e,ψ (some ⟨gS,0,none⟩) 2 2,O U y.count] _ from H5.out.box hg6 (((H5.out.1.at_ (p:=bv) (t:=31) (cs:=#[O U y.key,ψ A y.counts.length c,ψ (some ⟨gT,0,none⟩) y.trusts.length d,ψ (some ⟨gC,0,none⟩) y.cells.length e,ψ (some ⟨gS,0,none⟩) 2 2,O U y.count]) (by simp)).set_ 0 _).set_ 1 _))
   have hr6:=hr5.grown hg6 (by omega)
   have HR:=hid (hr6.mono (show w.1.size + 1 <= w4.1.size by omega))
   clear hg6 X0 Y0 X1 Y1 H5 hr5 hr6
   generalize World.setCell _ _ _ = w6 at H6 HR |-
   obtain ⟨kd0,kg0,kd1,kg1,-⟩:=H6.out.1.rd
   go_wp2_with fail
   obtain ⟨w9,e9,d9,h9,s9,g9,ug9⟩:=H6.out.end_
   rw [e9]
   clear e9
   have F9:=hid (show EG v w g Ac l cap (τ (σ #[O U key,ψ Q zs.length cq,ψ (some ⟨gT,0,none⟩) y.trusts.length d,ψ (some ⟨gC,0,none⟩) y.cells.length e,ψ (some ⟨gS,0,none⟩) 2 2,O U y.count])) w9 from by
    obtain ⟨z1,z2,z3,z4⟩:=H64.out
    obtain ⟨x1,x2,x3,x4,x5,x6,x7⟩:=HSH.out
    exact ⟨{ y.toG with key:=key,counts:=zs },_,rfl,(fun u' hm=>by
     obtain ⟨p1,p2,p3,p4,p5,p6,p7,p8⟩:=(h9.mid hm (by omega)).lists
     exact ⟨Q,cq,some ⟨gT,0,none⟩,d,some ⟨gC,0,none⟩,e,some ⟨gS,0,none⟩,2,rfl,(by obtain ⟨Q0,c0,e0,hI⟩:=(show Row u' (w.1.size + 1) 2 _ zs from ⟨FP (HR.out.grown ug9 (by omega)).1 hm (by omega),HR.out.2⟩).reads;injection e0 with e1 e2 e3;subst e1;exact hI),p2,p3,p4,hcq,lr _⟩),⟨by simp only [];omega,x2,x3,by simp [VolN.toG],SX.out⟩,⟨z1,SY.out,z4⟩,s9,g9⟩)
   clear kd0 kg0 kd1 kg1
   exact bodyPost_ret (v:=σ #[O U key,ψ Q zs.length cq,ψ (some ⟨gT,0,none⟩) y.trusts.length d,ψ (some ⟨gC,0,none⟩) y.cells.length e,ψ (some ⟨gS,0,none⟩) 2 2,O U y.count]) (by simp [results,results47,go_sem,d9]) rfl F9.out
def Sv (w:World) (e:Ending) (w':World):Prop:=∃ (x:VolG) (cs:Array Value) (n:Int),e = τ (.tuple #[σ cs,O U n]) /\ I64 n /\ RdG w' w'.1.size x (σ cs) /\ x.Short /\ x.Int64 /\ Below w.1.size w w'
theorem Mid.drew (lo hi:Nat) (u:World):Mid lo hi u u.drew:=⟨rfl,rfl,rfl,lr _,fun _ _ _=>rfl⟩
def IV (b:World) (y:VolG) (k:Int) (e:Ending) (w':World):Prop:=∃ A c B d C f E s,e = τ (.tuple #[σ #[O U y.key,ψ A y.counts.length c,ψ B y.trusts.length d,ψ C y.cells.length f,ψ E y.slots.length s,O U y.count],O U k]) /\ RdG w' w'.1.size y (σ #[O U y.key,ψ A y.counts.length c,ψ B y.trusts.length d,ψ C y.cells.length f,ψ E y.slots.length s,O U y.count]) /\ Below b.1.size b w'
theorem RdG.lits {u:World} {y:VolG} {cs:Array Value} (h:RdG u u.1.size y (σ cs)):∃ A c B d C f E s,cs = #[O U y.key,ψ A y.counts.length c,ψ B y.trusts.length d,ψ C y.cells.length f,ψ E y.slots.length s,O U y.count]:=by
 obtain ⟨A,c,B,d,C,f,E,s,eq,-⟩:=h
 injection eq with eq
 exact ⟨A,c,B,d,C,f,E,s,eq⟩
theorem Ans2.v {b:World} {r:Option VolN × Int} {e:Ending} {w':World} (h:Ans2 b r e w'):IV b (optG r.1) r.2 e w':=by
 obtain ⟨cs,rfl,hq,hb⟩:=h
 have hr:=hq.reads
 obtain ⟨A,c,B,d,C,f,E,s,rfl⟩:=hr.lits
 exact ⟨A,c,B,d,C,f,E,s,rfl,hr,hb⟩
def QInv (o:Option VolN):Prop:=∀ x,o = some x -> x.Inv
theorem VolN.Inv.toG {x:VolN} (h:x.Inv):x.toG.Short /\ x.toG.Int64 /\ x.toG.okB = true:=by
 have hs:=h.short
 have hi:=h.int64
 refine ⟨⟨hs.1,hs.2.1,hs.2.2.1,by simp [VolN.toG],fun i hi=>?_⟩,⟨hi.1,fun i hk=>?_,hi.2.2.2⟩,?_⟩
 ·have h2:i < 2:=hi
  rcases (show i = 0 \/ i = 1 by omega) with rfl | rfl
  ·exact ⟨hs.2.2.2.1,hs.2.2.2.2.1⟩
  ·exact ⟨hs.2.2.2.2.2.1,hs.2.2.2.2.2.2⟩
 ·have h2:i < 2:=hk
  rcases (show i = 0 \/ i = 1 by omega) with rfl | rfl
  ·exact hi.2.1
  ·exact hi.2.2.1
 ·have f0:fitB x.key x.counts x.s0.trusts x.s0.cells = true:=by
    unfold fitB
    rw [Bool.and_eq_true]
    refine ⟨?_,decide_eq_true h.2.2.2.2.1.2.1⟩
    rcases h.2.2.2.2.1.1 with e | e
    ·rw [e];rfl
    ·rw [EQ e];simp
  have f1:fitB x.key x.counts x.s1.trusts x.s1.cells = true:=by
   unfold fitB
   rw [Bool.and_eq_true]
   refine ⟨?_,decide_eq_true h.2.2.2.2.2.2.1⟩
   rcases h.2.2.2.2.2.1 with e | e
   ·rw [e];rfl
   ·rw [EQ e];simp
  show volB x.key x.counts x.trusts x.cells [x.s0,x.s1] x.count = true
  unfold volB
  rw [DQ h.2.1,EQ h.2.2.1]
  simp only [List.getD_cons_zero,List.getD_cons_succ,f0,f1]
  simp [h.2.2.2.1.1,h.2.2.2.1.2]
theorem QInv.shown {o:Option VolN} (h:QInv o):(optG o).Short /\ (optG o).Int64:=by
 cases o with
 | none=>exact ⟨⟨by simp [optG,Gy],by simp [optG,Gy],by simp [optG,Gy],by simp [optG,Gy],fun i hi=>by simp [optG,Gy] at hi⟩,⟨fun i hi=>by simp [optG,Gy] at hi,fun i hi=>by simp [optG,Gy] at hi,by simp [optG,Gy,I64]⟩⟩
 | some x=>exact ⟨(h x rfl).toG.1,(h x rfl).toG.2.1⟩

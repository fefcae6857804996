import Derived.Test.YteoijmejhdocdaaGreatDoorV24
import Derived.Test.YteoijmejhdocdaaGreatDoorV25
namespace Go.Proofs.YteoijmejhdocdaaGreatDoor.Mx
open Go.ChangeShapes Go.WideShapes Go.ChangeAt Go.RowKit
set_option linter.unusedVariables false
open Go.Lib (hid)
open Go.Proofs.Tryz
set_option maxRecDepth 20000
set_option maxHeartbeats 64000000
open Value renaming int → O, slice → ψ, bool → φ, agg → σ
open IntKind renaming i64 → U
noncomputable def FU (key:Int) (l:List Int) (r:Nat):Tru:=⟨l.getD r 0,0,0,0,GI key (Cq key (upTo l r) (l.getD r 0).toNat),0,0,false⟩
noncomputable def Br (key:Int) (l:List Int) (k:Nat):List Tru:=(List.range k).map (FU key l)
noncomputable def Cw (key:Int) (l:List Int) (k:Nat):List Ce:=(List.range k).flatMap fun r=>Cj key (upTo l r) (l.getD r 0).toNat
theorem Nh (key:Int) (l:List Int) (k:Nat):Br key l (k + 1) = Br key l k ++ [FU key l k]:=by simp [Br,List.range_succ]
theorem IF (key:Int) (l:List Int) (k:Nat):Cw key l (k + 1) = Cw key l k ++ Cj key (upTo l k) (l.getD k 0).toNat:=by simp [Cw,List.range_succ]
theorem Ct (key:Int) (l:List Int) (k:Nat):(Br key l k).length = k:=by simp [Br]
theorem JV {key:Int} {l:List Int} (h:AL l):∀ k,k <= l.length -> ((Cw key l k).length:Int) = upTo l k:=by
 intro k
 induction k with
 | zero=>intro _;rw [DS];simp [Cw]
 | succ k ih=>
   intro hk
   have h1:=ih (by omega)
   have h2:=(h k (by omega)).1
   rw [IF,List.length_append,Fh,Dd l (by omega)]
   omega
theorem Pd (key:Int):∀ (L:List Tri) (s:Int),I64 s -> I64 (Es key s L):=by
 intro L
 induction L with
 | nil=>intro s h;exact h
 | cons a L ih=>
   intro s h
   have e:I64 (Bf s (Di key a.1 a.2.1 a.2.2)):=by unfold Bf I64;split <;> omega
   exact ih _ e
theorem Ph {key:Int} {l:List Int} (h:AL l) {r:Nat} (hr:r < l.length):TruI (FU key l r):=by
 have hv:=h r hr
 have z:I64 0:=⟨by decide,by decide⟩
 refine ⟨⟨?_,?_⟩,z,z,z,?_,z,z⟩
 ·simp only [FU];omega
 ·simp only [FU];omega
 ·simp only [FU]
  unfold GI
  split
  ·exact Pd key _ 0 ⟨by decide,by decide⟩
  ·exact ⟨by decide,by decide⟩
theorem JQ (key:Int) (l:List Int) {k i:Nat} (h:i < k):(Br key l k).getD i default = FU key l i:=by
 rw [List.getD_eq_getElem?_getD]
 simp [Br,h]
theorem Oh {key:Int} {l:List Int} (h:AL l):Cx (Br key l l.length):=by
 intro i hi
 rw [Ct] at hi
 rw [JQ key l hi]
 exact Ph h hi
noncomputable def Cl (key:Int) (l:List Int):VolN:=
 ⟨key,l,Br key l l.length,Cw key l l.length,⟨0,[],0,[]⟩,⟨(Dq key l 1 (Br key l l.length)).1,(Dq key l 1 (Br key l l.length)).2.1,(Dq key l 1 (Br key l l.length)).2.2,Cw key l l.length⟩,1⟩
theorem Qm {A:Option Addr} {n c:Nat} {g:Nat} (h:g ∈ Ae (ψ A n c)):(Value.slice A n c).ownBlock = some g:=by
 cases A with
 | none=>simp [Ae] at h
 | some a=>simp [Ae] at h;subst h;rfl
theorem Sk {A B:Option Addr} {n c m d:Nat} (h:∀ g,(Value.slice A n c).ownBlock = some g -> (Value.slice B m d).ownBlock ≠ some g):Sep (Ae (ψ A n c)) (Ae (ψ B m d)):=fun y hy hm=>h y (Qm hy) (Qm hm)
theorem NL {α:Type} [Inhabited α] {enc:α -> List Value} {n:Nat} {T:TypeId} {w:World} {base:Nat} {A:Option Addr} {c:Nat} {L:List α} (h:SRow enc n T w base (ψ A L.length c) L) (hn:∀ x,(enc x).length = n):Sls enc n w w.1.size A L:=by
 obtain ⟨A',c',e,hs,-⟩:=h.reads hn
 simp only [Value.slice.injEq,true_and] at e
 obtain ⟨rfl,rfl⟩:=e
 exact hs
theorem Gw (key:Int) (A:Option Addr) (l:List Int) (cap:Nat) (w:World) (hcap:l.length <= cap) (hA:Ints w U w.1.size A l) (hp:Ay key l):
    Calls prog 23 #[σ #[O U key,ψ A l.length cap]] w (PQ w (Cl key l)):=by
 have hn4:=hp.2.1.2
 have hn1:=hp.2.1.1
 have hco:=hp.2.2.1
 have hu4:=hp.2.2.2
 have hnm:l.length <= maxLen:=by unfold maxLen;omega
 have P0:=fun (u:World) (hb:Below w.1.size w u)=>AW key A l cap u hnm ((hA.below hb (lr _)).more hb.size)
 rw [CZ hp] at P0
 have PO:=hid P0
 have PC:=hid (fun (u:World) (hb:Below w.1.size w u)=>IE key A l cap u (by omega) ((hA.below hb (lr _)).more hb.size))
 have NT:=hid (fun (u:World) (r:Nat) (hr:r < l.length) (hb:Below w.1.size w u)=>Of key A l cap r u hnm hcap ((hA.below hb (lr _)).more hb.size) hp hr)
 have SO:=hid (fun (u:World) (hb:Below w.1.size w u) (B:Option Addr) (tc:Nat) (hB:Trs u u.1.size B (Br key l l.length))=>Gf key A l cap 1 B (Br key l l.length) tc u hnm ((hA.below hb (lr _)).more hb.size) (by rw [Ct];omega) hB (Oh hco) ⟨by decide,by decide⟩)
 have HCN:=hid (JV (key:=key) hco)
 have UB:=hid (fun k (hk:k <= l.length)=>Dl hco hk)
 have UM:=hid (fun (i j:Nat) (hij:i <= j) (hj:j <= l.length)=>Cy hco hij hj)
 have CO:=hid hco
 have K0:=hid (show Kept w [(w.1.size + 1,31,#[O U 0,ψ none 0 0,ψ none 0 0,ψ none 0 0,ψ none 0 0,O U 0]),(w.1.size,26,#[O U key,ψ A l.length cap])] _ from (((Kept.refl w).put1 _ _ #[O U key,ψ A l.length cap] rfl).put1 _ _ #[O U 0,ψ none 0 0,ψ none 0 0,ψ none 0 0,ψ none 0 0,O U 0] (by simp)))
 obtain ⟨fv,hfv⟩:∃ fv,fv = Cl key l:=⟨_,rfl⟩
 rw [<- hfv]
 have HFV:=hid hfv
 clear hA P0 hnm hco hp hfv
 go_enter func23,ntmps23
 go_wp2_with fail
 refine (PO.out _ K0.out.1).mono ?_;rintro e u1 ⟨rfl,b1⟩
 have hk1:=K0.out.below b1
 have lu1:w.1.size + 1 < u1.1.size:=hk1.lt (x:=(w.1.size + 1,31,#[O U 0,ψ none 0 0,ψ none 0 0,ψ none 0 0,ψ none 0 0,O U 0])) (by simp)
 clear b1 K0
 obtain ⟨X0,Y0,X1,Y1,-⟩:=hk1.rd
 have KK:=hid hk1
 go_wp2_with fail
 refine (PC.out _ KK.out.1).mono ?_;rintro e u2 ⟨A',c',rfl,hir,b2⟩
 have hk2:=KK.out.below b2
 clear b2 PC
 clear hk1 KK X0 Y0 X1 Y1
 have lo0:w.1.size + 1 < u2.1.size:=hk2.lt (x:=(w.1.size + 1,31,#[O U 0,ψ none 0 0,ψ none 0 0,ψ none 0 0,ψ none 0 0,O U 0])) (by simp)
 have lo1:w.1.size < u2.1.size:=hk2.lt (x:=(w.1.size,26,#[O U key,ψ A l.length cap])) (by simp)
 have hk3:=hk2.put1 u2.1.size 31 #[O U key,ψ A' l.length c',ψ none 0 0,ψ none 0 0,ψ none 0 0,O U 1] rfl
 have bu3:=(Below.refl u2.1.size u2).alloc (lr _) (.cells #[O U key,ψ A' l.length c',ψ none 0 0,ψ none 0 0,ψ none 0 0,O U 1] 31)
 clear hk2
 go_upto_region 4 with fail
 generalize World.alloc u2 _ = u3 at hk3 bu3 |-
 obtain ⟨X0,Y0,X1,Y1,X2,Y2,-⟩:=hk3.rd
 have HIR:=hid hir
 have KK:=hid hk3
 have BU:=hid bu3
 have lu3:u2.1.size < u3.1.size:=hk3.lt (x:=(u2.1.size,31,#[O U key,ψ A' l.length c',ψ none 0 0,ψ none 0 0,ψ none 0 0,O U 1])) (by simp)
 clear hir hk3 bu3
 go_wp2_with fail
 go_loopw [4] (fun i u=>∃ (k:Nat) (vT vC:Value),k <= l.length /\ i = O U k /\ Kept w [(u2.1.size,31,#[O U key,ψ A' l.length c',vT,vC,ψ none 0 0,O U 1]),(w.1.size + 1,31,#[O U 0,ψ none 0 0,ψ none 0 0,ψ none 0 0,ψ none 0 0,O U 0]),(w.1.size,26,#[O U key,ψ A l.length cap])] u /\ Bl u (u2.1.size + 1) vT (Br key l k) /\ Bv u (u2.1.size + 1) vC (Cw key l k) /\ (∀ g,vT.ownBlock = some g -> vC.ownBlock ≠ some g) /\ Below u2.1.size u2 u) (fun i _=>l.length - (intOf i).toNat)
 case atStart=>exact ⟨0,_,_,by omega,rfl,KK.out,World.ownsRow_nil _ _ _ _,World.ownsRow_nil _ _ _ _,(by intro g h;cases h),BU.out⟩
 case round=>
  obtain ⟨k,vT,vC,hk,rfl,hkp,htr,hcr,hsp,hbu⟩:=hrel
  clear KK BU
  clear X0 Y0 X1 Y1 X2 Y2
  obtain ⟨X0,Y0,X1,Y1,X2,Y2,-⟩:=hkp.rd
  have KK:=hid hkp
  have HT:=hid htr
  have HC:=hid hcr
  have HS:=hid hsp
  have HB:=hid hbu
  clear hkp htr hcr hsp hbu
  have lz:=HB.out.size
  have lz2:u2.1.size < wr.1.size:=KK.out.lt (x:=(u2.1.size,31,#[O U key,ψ A' l.length c',vT,vC,ψ none 0 0,O U 1])) (by simp)
  by_cases hlt:k < l.length
  ·skip
   have hlt':(k:Int) < l.length:=by omega
   have N0:=fun (u:World) (hb:Below w.1.size w u)=>NT.out u k hlt hb
   have HTR0:FU key l k = ⟨l.getD k 0,0,0,0,GI key (Cq key (upTo l k) (l.getD k 0).toNat),0,0,false⟩:=rfl
   have HCS0:=IF key l k
   have hlenN:(Cj key (upTo l k) (l.getD k 0).toNat).length <= 8:=by rw [Fh];have:=CO.out k hlt;omega
   generalize Cj key (upTo l k) (l.getD k 0).toNat = N at N0 HCS0 hlenN
   generalize GI key (Cq key (upTo l k) (l.getD k 0).toNat) = sm at N0 HTR0
   generalize l.getD k 0 = nv at N0 HTR0
   have N1:=hid N0
   have HTR:=hid HTR0
   have HCS:=hid HCS0
   clear N0 HTR0 HCS0
   go_wp2_with fail
   refine (N1.out _ KK.out.1).mono ?_;rintro e u4 ⟨v6,rfl,r6,b4⟩
   have hk4:=KK.out.below b4
   have ht4:=HT.out.below b4
   have hc4:=HC.out.below b4
   have hb4:=HB.out.trans (b4.mono lz)
   have lz4:=b4.size
   have oT:∀ g,vT.ownBlock = some g -> u2.1.size + 1 <= g /\ g < wr.1.size:=fun g hg=>SRow.lt HT.out hg
   have oC:∀ g,vC.ownBlock = some g -> u2.1.size + 1 <= g /\ g < wr.1.size:=fun g hg=>SRow.lt HC.out hg
   clear KK HT HC HB b4 X0 Y0 X1 Y1 X2 Y2
   obtain ⟨A6,c6,rfl,-,-⟩:=SRow.reads Au (show Bv u4 wr.1.size v6 N from r6)
   have r6b:Bv u4 wr.1.size (ψ A6 N.length c6) N:=r6
   clear r6 N1
   have HTS:=hid (Nh key l k)
   have hlenT:=Ct key l k
   have hlenC:(Cw key l k).length <= 24:=by have:=HCN.out k hk;have:=UM.out _ _ hk (lr _);omega
   skip
   have lp0:u2.1.size < u4.1.size:=hk4.lt (x:=(u2.1.size,31,#[O U key,ψ A' l.length c',vT,vC,ψ none 0 0,O U 1])) (by simp)
   have lp1:w.1.size + 1 < u4.1.size:=hk4.lt (x:=(w.1.size + 1,31,#[O U 0,ψ none 0 0,ψ none 0 0,ψ none 0 0,ψ none 0 0,O U 0])) (by simp)
   have lp2:w.1.size < u4.1.size:=hk4.lt (x:=(w.1.size,26,#[O U key,ψ A l.length cap])) (by simp)
   have hk5:=hk4.put1 u4.1.size 94 #[O U nv,O U 0,O U 0,O U 0,O U sm,O U 0,O U 0,φ false] rfl
   have ht5:=ht4.alloc (.cells #[O U nv,O U 0,O U 0,O U 0,O U sm,O U 0,O U 0,φ false] 94)
   have hc5:=hc4.alloc (.cells #[O U nv,O U 0,O U 0,O U 0,O U sm,O U 0,O U 0,φ false] 94)
   have hn5:=r6b.alloc (.cells #[O U nv,O U 0,O U 0,O U 0,O U sm,O U 0,O U 0,φ false] 94)
   have hb5:=hb4.alloc (by omega) (.cells #[O U nv,O U 0,O U 0,O U 0,O U sm,O U 0,O U 0,φ false] 94)
   clear hk4 ht4 hc4 hb4 r6b
   go_upto_region 8 with fail
   generalize World.alloc u4 _ = u5 at hk5 ht5 hc5 hn5 hb5 |-
   have lu5:u4.1.size < u5.1.size:=hk5.lt (x:=(u4.1.size,94,#[O U nv,O U 0,O U 0,O U 0,O U sm,O U 0,O U 0,φ false])) (by simp)
   have hka:=hk5.alloc (.cells #[O U nv,O U 0,O U 0,O U 0,O U sm,O U 0,O U 0,φ false] 94)
   have hta:=ht5.alloc (.cells #[O U nv,O U 0,O U 0,O U 0,O U sm,O U 0,O U 0,φ false] 94)
   have hca:=hc5.alloc (.cells #[O U nv,O U 0,O U 0,O U 0,O U sm,O U 0,O U 0,φ false] 94)
   have hna:=hn5.alloc (.cells #[O U nv,O U 0,O U 0,O U 0,O U sm,O U 0,O U 0,φ false] 94)
   have hba:=hb5.alloc (by omega) (.cells #[O U nv,O U 0,O U 0,O U 0,O U sm,O U 0,O U 0,φ false] 94)
   have hnew:=Aa.new u5 94 #[O U nv,O U 0,O U 0,O U 0,O U sm,O U 0,O U 0,φ false]
   obtain ⟨X0,Y0,X1,Y1,X2,Y2,X3,Y3,-⟩:=hk5.rd
   obtain ⟨ka0,ja0,ka1,ja1,ka2,ja2,ka3,ja3,-⟩:=hka.rd
   have HW:=hid (show ∀ j u,[O U nv,O U 0,O U 0,O U 0,O U sm,O U 0,O U 0,φ false][j]? = some u -> ∃ ad,some (⟨u5.1.size,0,none⟩:Addr) = some ad /\ (u5.alloc (.cells #[O U nv,O U 0,O U 0,O U 0,O U sm,O U 0,O U 0,φ false] 94)).cell? (ad.add j) = some u from fun j u hj=>⟨_,rfl,by rw [show Addr.add ⟨u5.1.size,0,none⟩ j = ⟨u5.1.size,j,none⟩ by unfold Addr.add;split <;> simp_all];rw [hnew.cell j];simpa using hj⟩)
   have KA:=hid hka
   have TA:=hid hta
   have CA:=hid hca
   have NA:=hid hna
   have BA:=hid hba
   have hza:(u5.alloc (.cells #[O U nv,O U 0,O U 0,O U 0,O U sm,O U 0,O U 0,φ false] 94)).1.size = u5.1.size + 1:=by simp
   clear hka hta hca hna hba hnew hk5 ht5 hc5 hn5 hb5
   go_wp2_with (at_builtin;refine Cc rfl _ _ 27 rfl (u2.1.size + 1) 94 8 64 (Br key l k).length (σ #[O U 0,O U 0,O U 0,O U 0,O U 0,O U 0,O U 0,φ false]) vT (Af truV (Br key l k)) (some ⟨u5.1.size,0,none⟩) 1 1 [O U nv,O U 0,O U 0,O U 0,O U sm,O U 0,O U 0,φ false] underlying27 IG rfl (by omega) rfl TA.out rfl rfl HW.out (by simp [Value.oneCell']) (by rw [hlenT];unfold maxLen;omega) (by rw [hlenT];omega) (by rw [hza];omega) ?_)
   intro v7 u7 hown hg7 hat
   have ht7:Bl u7 (u2.1.size + 1) v7 (Br key l (k + 1)):=by
    rw [HTS.out]
    show u7.ownsRow _ _ 8 v7 _ _
    rw [List.length_append,LB,HTR.out,hlenT]
    exact hown
   obtain ⟨A7,c7,e7,-,-⟩:=ht7.reads AD
   rw [Ct] at e7
   subst e7
   have hk7:=KA.out.tail.grownO hg7 (fun g e=>⟨by have:=oT g e;omega,by have:=oT g e;intro y hy;simp at hy;rcases hy with rfl | rfl | rfl <;> simp <;> omega⟩)
   have hc7:=SRow.kept CA.out hg7 (by cases e:vC.ownBlock with | none=>exact .inl rfl | some q=>exact .inr (fun h=>HS.out q h.symm e))
   have hn7:=SRow.kept NA.out hg7 (by cases e:(Value.slice A6 N.length c6).ownBlock with | none=>exact .inl rfl | some q=>exact .inr (fun h=>by have h1:=(SRow.lt NA.out e).1;have h2:=(oT q h.symm).2;omega))
   have hb7:=BA.out.trans (EE hg7 (by omega) (fun g e=>by have:=oT g e;omega))
   have hs7:∀ g,(Value.slice A7 (k + 1) c7).ownBlock = some g -> vC.ownBlock ≠ some g:=by
    intro g h1 h2
    rcases hat with h | h
    ·exact HS.out g (h.symm.trans h1) h2
    ·rw [h1] at h;injection h with h;have:=(oC g h2).2;omega
   have o7:=fun g (hg:(Value.slice A7 (k + 1) c7).ownBlock = some g)=>SRow.lt ht7 hg
   have lz7:=hg7.size
   rw [hza] at lz7
   clear hown hat hg7 HW
   clear KA TA CA NA BA X0 Y0 X1 Y1 X2 Y2 X3 Y3 ka0 ja0 ka1 ja1 ka2 ja2 ka3 ja3
   obtain ⟨X0,Y0,X1,Y1,X2,Y2,-⟩:=hk7.rd
   go_upto_region 9 with fail
   have hg8:=Ai (Aj u7 (some u2.1.size)) 2 (ψ A7 (k + 1) c7)
   have hk8:Kept w [(u2.1.size,31,#[O U key,ψ A' l.length c',ψ A7 (k + 1) c7,vC,ψ none 0 0,O U 1]),(w.1.size + 1,31,#[O U 0,ψ none 0 0,ψ none 0 0,ψ none 0 0,ψ none 0 0,O U 0]),(w.1.size,26,#[O U key,ψ A l.length cap])] _:=hk7.put (k:=0) rfl (by unfold Apart;simp <;> omega) hg8 ((hk7.at_ (p:=u2.1.size) (t:=31) (cs:=#[O U key,ψ A' l.length c',vT,vC,ψ none 0 0,O U 1]) (by simp)).set_ 2 _)
   have ht8:=SRow.grown ht7 hg8 (by omega)
   have hc8:=SRow.grown hc7 hg8 (by omega)
   have hn8:=SRow.grown hn7 hg8 (by omega)
   have hb8:=bgb hb7 hg8 hb7.size (lr _)
   have lz8:=hg8.size
   clear ht7 hc7 hn7 hb7 hg8
   clear hk7 X0 Y0 X1 Y1 X2 Y2
   generalize World.setCell u7 _ _ = u8 at hk8 ht8 hc8 hn8 hb8 lz8 |-
   obtain ⟨X0,Y0,X1,Y1,X2,Y2,-⟩:=hk8.rd
   have HW:=hid (Sls.news Au (by omega) (NL hn8 Au))
   have KK:=hid hk8
   have TT:=hid ht8
   have CC:=hid hc8
   have BB:=hid hb8
   have HS7:=hid hs7
   clear hk8 ht8 hc8 hn8 hb8 hs7
   go_wp2_with (at_builtin;refine Cc rfl _ _ 28 rfl (u2.1.size + 1) 118 2 16 (Cw key l k).length (σ #[O U 0,O U 0]) vC (Af ceV (Cw key l k)) A6 N.length c6 (Af ceV N) underlying28 Dp rfl (by omega) rfl CC.out rfl (Ak Au) HW.out (DW N) (by unfold maxLen;omega) (by omega) (by omega) ?_)
   intro v9 u9 hown hg9 hat
   have hc9:Bv u9 (u2.1.size + 1) v9 (Cw key l (k + 1)):=by
    rw [HCS.out]
    show u9.ownsRow _ _ 2 v9 _ _
    rw [List.length_append,Nz]
    exact hown
   obtain ⟨A9,c9,e9,-,-⟩:=hc9.reads Au
   subst e9
   have hk9:=KK.out.grownO hg9 (fun g e=>⟨by have:=oC g e;omega,by have:=oC g e;intro y hy;simp at hy;rcases hy with rfl | rfl | rfl <;> simp <;> omega⟩)
   have ht9:=SRow.kept TT.out hg9 (by cases e:(Value.slice A7 (k + 1) c7).ownBlock with | none=>exact .inl rfl | some q=>exact .inr (fun h=>HS7.out q e h.symm))
   have hb9:=BB.out.trans (EE hg9 BB.out.size (fun g e=>by have:=oC g e;omega))
   have hs9:∀ g,(Value.slice A7 (k + 1) c7).ownBlock = some g -> (Value.slice A9 (Cw key l (k + 1)).length c9).ownBlock ≠ some g:=by
    intro g h1 h2
    rcases hat with h | h
    ·exact HS7.out g h1 (h.symm.trans h2)
    ·rw [h2] at h;injection h with h;have:=(o7 g h1).2;omega
   clear hown hat hg9 HW KK TT CC BB X0 Y0 X1 Y1 X2 Y2
   obtain ⟨X0,Y0,X1,Y1,X2,Y2,-⟩:=hk9.rd
   go_upto_region 6 with fail
   have hg10:=Ai (Aj u9 (some u2.1.size)) 3 (ψ A9 (Cw key l (k + 1)).length c9)
   have hk10:Kept w [(u2.1.size,31,#[O U key,ψ A' l.length c',ψ A7 (k + 1) c7,ψ A9 (Cw key l (k + 1)).length c9,ψ none 0 0,O U 1]),(w.1.size + 1,31,#[O U 0,ψ none 0 0,ψ none 0 0,ψ none 0 0,ψ none 0 0,O U 0]),(w.1.size,26,#[O U key,ψ A l.length cap])] _:=hk9.put (k:=0) rfl (by unfold Apart;simp <;> omega) hg10 ((hk9.at_ (p:=u2.1.size) (t:=31) (cs:=#[O U key,ψ A' l.length c',ψ A7 (k + 1) c7,vC,ψ none 0 0,O U 1]) (by simp)).set_ 3 _)
   have ht10:=SRow.grown ht9 hg10 (by omega)
   have hc10:=SRow.grown hc9 hg10 (by omega)
   have hb10:=bgb hb9 hg10 hb9.size (lr _)
   clear ht9 hc9 hb9 hg10
   clear hk9 X0 Y0 X1 Y1 X2 Y2
   generalize World.setCell u9 _ _ = u10 at hk10 ht10 hc10 hb10 |-
   have KK:=hid hk10
   have TT:=hid ht10
   have CC:=hid hc10
   have BB:=hid hb10
   have HS9:=hid hs9
   clear hk10 ht10 hc10 hb10 hs9
   go_wp2_with fail
   go_roundw
   case rel=>exact ⟨k + 1,_,_,by omega,by go_num,KK.out,TT.out,CC.out,HS9.out,BB.out⟩
   case measure=>simp [intOf];omega
  ·skip
   obtain rfl:k = l.length:=by omega
   obtain ⟨AT,cT,eT,-,-⟩:=HT.out.reads AD
   rw [Ct] at eT
   subst eT
   obtain ⟨AC,cC,eC,-,-⟩:=HC.out.reads Au
   subst eC
   clear X0 Y0 X1 Y1 X2 Y2
   obtain ⟨sl,hsl⟩:∃ sl,sl = Dq key l 1 (Br key l l.length):=⟨_,rfl⟩
   obtain ⟨cn,sT,mc⟩:=sl
   have S0:=SO.out
   rw [<- hsl] at S0
   have HSL:=hid hsl
   have SO2:=hid S0
   clear hsl S0 SO
   have hlC:((Cw key l l.length).length:Int) = upTo l l.length:=HCN.out _ (lr _)
   have hlC2:(Cw key l l.length).length <= 24:=by omega
   have HT2:=hid (show Bl wr (u2.1.size + 1) (ψ AT (Br key l l.length).length cT) (Br key l l.length) from by rw [Ct];exact HT.out)
   generalize hM:Cw key l l.length = M at HC KK HS hlC2 |-
   have HM:=hid hM
   clear hM hlC
   have SO3:=hid (show ∀ (u:World),Below w.1.size w u -> Trs u u.1.size AT (Br key l l.length) -> Calls prog 74 #[σ #[O U key,ψ A l.length cap],O U 1,ψ AT l.length cT] u (OD u cn sT mc) from fun u hb htu=>by have h:=SO2.out u hb AT cT htu;rw [Ct] at h;exact h)
   have kk:=KK.out
   have hc3:=kk.at_ (p:=u2.1.size) (t:=31) (cs:=#[O U key,ψ A' l.length c',ψ AT l.length cT,ψ AC M.length cC,ψ none 0 0,O U 1]) (by simp)
   have kb:=kk.tail
   obtain ⟨X0,Y0,X1,Y1,X2,Y2,-⟩:=kk.rd
   have KB:=hid kb
   have HC3:=hid hc3
   have lw2:=lo1
   have hz3:u2.1.size < wr.1.size:=hc3.lt
   clear kk
   go_upto_region 10 with fail
   clear X0 Y0 X1 Y1 X2 Y2
   have hLlt:∀ y ∈ ([(w.1.size + 1,31,#[O U 0,ψ none 0 0,ψ none 0 0,ψ none 0 0,ψ none 0 0,O U 0]),(w.1.size,26,#[O U key,ψ A l.length cap])]:List Box),y.1 < wr.1.size:=fun y hy=>kb.lt hy
   have hLne:∀ y ∈ ([(w.1.size + 1,31,#[O U 0,ψ none 0 0,ψ none 0 0,ψ none 0 0,ψ none 0 0,O U 0]),(w.1.size,26,#[O U key,ψ A l.length cap])]:List Box),y.1 ≠ u2.1.size:=by intro y hy;simp at hy;rcases hy with rfl | rfl <;> simp <;> omega
   refine Ao [false,false,false,false,true,true,false,false,true,true,true,false,true] (ShL [(4,fun v=>∃ (A:Option Addr) (c:Nat),v = σ #[O U cn,ψ A sT.length c,O U mc]),(5,fun v=>∃ g:Nat,v = ψ (some ⟨g,0,none⟩) 0 0),(8,fun v=>∃ (A:Option Addr) (c:Nat),v = ψ A M.length c),(9,fun v=>∃ (A:Option Addr) (c:Nat) (C:Option Addr) (d:Nat),v = σ #[O U cn,ψ A sT.length c,O U mc,ψ C M.length d]),(10,fun v=>∃ g:Nat,v = ψ (some ⟨g,0,none⟩) 2 2)]) (fun D γ u=>FmtC w wr [(w.1.size + 1,31,#[O U 0,ψ none 0 0,ψ none 0 0,ψ none 0 0,ψ none 0 0,O U 0]),(w.1.size,26,#[O U key,ψ A l.length cap])] sT M cn mc u2.1.size 31 #[O U key,ψ A' l.length c',ψ AT l.length cT,ψ AC M.length cC,ψ none 0 0,O U 1] (fun v=>#[O U key,ψ A' l.length c',ψ AT l.length cT,ψ AC M.length cC,v,O U 1]) D γ u) (by kernel_rfl) (by kernel_rfl) (fun γ=>by kernel_rfl) (fun D γ γ' w ha h=>h.loc ha) (ShL.inh _ ?inh) (fun γ=>FmtC.start kb hc3) (fun γ hγ=>?_)
   case inh=>
    intro y hy
    simp only [List.mem_cons,List.not_mem_nil,or_false] at hy
    rcases hy with rfl | rfl | rfl | rfl | rfl
    ·exact ⟨_,none,0,rfl⟩
    ·exact ⟨_,0,rfl⟩
    ·exact ⟨_,none,0,rfl⟩
    ·exact ⟨_,none,0,none,0,rfl⟩
    ·exact ⟨_,0,rfl⟩
   obtain ⟨A4,c4,e4⟩:∃ (A:Option Addr) (c:Nat),γ 4 = σ #[O U cn,ψ A sT.length c,O U mc]:=hγ 4 rfl
   obtain ⟨g5,e5⟩:∃ g:Nat,γ 5 = ψ (some ⟨g,0,none⟩) 0 0:=hγ 5 rfl
   obtain ⟨A8,c8,e8⟩:∃ (A:Option Addr) (c:Nat),γ 8 = ψ A M.length c:=hγ 8 rfl
   obtain ⟨A9,c9,C9,d9,e9_⟩:∃ (A:Option Addr) (c:Nat) (C:Option Addr) (d:Nat),γ 9 = σ #[O U cn,ψ A sT.length c,O U mc,ψ C M.length d]:=hγ 9 rfl
   obtain ⟨g10,e10⟩:∃ g:Nat,γ 10 = ψ (some ⟨g,0,none⟩) 2 2:=hγ 10 rfl
   have e12:γ 12 = undef:=hγ 12 rfl
   clear kb hc3 hγ
   apply Exists.intro
   refine ⟨fun D=>?_,?_,?_⟩
   ·simp only [AP,cond_true,cond_false,Nat.reduceAdd,e4,e5,e8,e9_,e10,e12]
    iterate 13 (first
     | go_big_quiet_skip
     | (go_big_quiet_want
        go_big_quiet_op
        first
         | go_big_quiet_on
         | (apply Exists.intro
            refine ⟨fun u hu=>?_,?_⟩
            ·first
               | with_reducible rfl
               | (obtain ⟨X0,Y0,X1,Y1,-⟩:=hu.1.rd;have m2:=hu.cellAt 2 (x:=some (ψ AT l.length cT)) rfl (fun _=>rfl);have m3:=hu.cellAt 3 (x:=some (ψ AC M.length cC)) rfl (fun _=>rfl);go_simp;first | done | with_reducible rfl)
            go_big_quiet_on)))
    exact wpQuiet_nil rfl
   ·simp only [AY,Nat.reduceAdd]
    refine ⟨fun D u hD hd hu=>?_,fun D u hD hd hu=>?_,fun D u hD hd hu=>?_,fun D u hD hd hu=>?_,fun D u hD hd hu=>?_,fun D u hD hd hu=>?_,trivial⟩
    ·have htu:=NL (SRow.grown HT2.out hu.2.1 (by omega)) AD
     skip
     exact As ((SO3.out u hu.1.1 htu).mono fun e w' ⟨Aq,cq,he,hr,hb⟩=>⟨_,he,⟨_,_,rfl⟩,hu.sealed hD hz3 hb hr⟩) rfl rfl rfl rfl (by kernel_rfl)
    ·refine BQ 28 118 rfl underlying28 (by kernel_rfl) ?_
     exact ⟨⟨_,rfl⟩,hu.build hD hz3⟩
    ·have d5:=hd { on:=5,ground:=Ground.data } (by simp) rfl rfl
     have hrow:=hu.2.2.2.2.2.1 d5 hD
     rw [e5] at hrow
     have hcu:=NL (SRow.grown HC.out hu.2.1 (by omega)) Au
     refine Cr _ _ 28 rfl wr.1.size 118 2 16 0 (σ #[O U 0,O U 0]) (ψ (some ⟨g5,0,none⟩) 0 0) [] AC M.length cC (Af ceV M) underlying28 Dp rfl (by omega) rfl hrow rfl (Ak Au) (Sls.news Au (by omega) hcu) (DW M) (by unfold maxLen;omega) (by omega) hu.2.1.size ?_
     intro v' w' hown hg hb2
     have hr9:Bv w' wr.1.size v' M:=by have h:=hown;simp only [Nat.zero_add,List.nil_append] at h;exact h
     obtain ⟨A6,c6,rfl,_,_⟩:=hr9.reads Au
     exact ⟨⟨_,_,rfl⟩,hu.append d5 hD hz3 hLlt KB.out.1.size e5 hr9 (by simpa [Value.ownBlock] using hg) (by simpa [Value.ownBlock] using hb2) rfl⟩
    ·have d4:=hd { on:=4,ground:=Ground.data } (by simp) rfl rfl
     have d8:=hd { on:=8,ground:=Ground.data } (by simp) rfl rfl
     refine Pv (v:=σ #[O U cn,ψ A4 sT.length c4,O U mc,ψ A8 M.length c8]) ?_ ⟨⟨_,_,_,_,rfl⟩,hu.pack d4 d8 (by rw [e4,e8];rfl)⟩
     first | rfl | (unfold execOp;go_simp;done) | (simp [execOp,go_sem];done)
    ·have d9h:=hd { on:=9,ground:=Ground.data } (by simp) rfl rfl
     have hv9:=hu.2.2.2.2.2.2.2.2.2.2.2.2.2.2 d9h
     rw [e9_,e4,e8] at hv9
     simp only [agg1,Value.agg.injEq,Array.mk.injEq,List.cons.injEq,Value.slice.injEq,true_and,and_true] at hv9
     obtain ⟨h9a,h9b⟩:=hv9
     have h9c:(Value.slice A9 sT.length c9) = ψ A4 sT.length c4:=h9a
     simp only [Value.slice.injEq,true_and] at h9c
     obtain ⟨rfl,rfl⟩:=h9c
     obtain ⟨rfl,rfl⟩:=h9b
     refine GV 29 91 2 4 64 (σ #[O U 0,ψ none 0 0,O U 0,ψ none 0 0]) _ #[O U 0,ψ none 0 0,O U 0,ψ none 0 0,O U cn,ψ A9 sT.length c9,O U mc,ψ C9 M.length d9] rfl underlying29 JA (by omega) (by omega) (by simp [Instr.fill,Value.cells,go_sem]) ⟨⟨_,rfl⟩,?_⟩
     have h10:=hu.slots hD d9h hz3
     rw [e4,e8] at h10
     exact h10
    ·have d10:=hd { on:=10,ground:=Ground.data } (by simp) rfl rfl
     exact MP (off:=4) (hu.2.2.1 hD) (by simp) rfl rfl rfl (by kernel_rfl) (fun w' hc hg=>⟨rfl,hu.store d10 hz3 (by omega) hLne hg (by simp only [e10];simpa using hc)⟩)
   ·intro D uf hD hu
    obtain ⟨h1,h2,h3,h4,h5,h6,h7,h8,h9,h10,h11,h12,h13,h14,h15⟩:=hu
    have hcs:=h4 (hD 12 (by simp) rfl)
    obtain ⟨Aq,cq,eq,hrs⟩:=h5 (hD 4 (by simp) rfl)
    have hrc:=h7 (hD 8 (by simp) rfl)
    have hsp:=h9 (hD 4 (by simp) rfl) (hD 8 (by simp) rfl)
    obtain ⟨gq,eq2,hgq,hsl,n4,n8⟩:=h10 (hD 10 (by simp) rfl)
    rw [e4] at eq hsp hsl n4
    rw [e8] at hrc hsp hsl n8
    rw [e10] at eq2
    simp only [e10] at hcs
    have eqA:(Value.slice A4 sT.length c4) = ψ Aq sT.length cq:=by injection eq with eq;injection eq with eq;injection eq with _ eq;injection eq with eq _
    injection eqA with eA _ eB
    subst eA
    subst eB
    have eqG:g10 = gq:=by injection eq2 with eq2;injection eq2 with eq2;injection eq2
    subst eqG
    clear h3 h4 h5 h6 h7 h8 h9 h10 h11 h12 h13 h14 h15 hD eq eq2
    have hkf:=h1.more (show w.1.size <= u2.1.size by omega) (show Aa uf u2.1.size 31 #[O U key,ψ A' l.length c',ψ AT l.length cT,ψ AC M.length cC,ψ (some ⟨g10,0,none⟩) 2 2,O U 1] from hcs)
    have hbf:=bgb HB.out h2 HB.out.size (lr _)
    have htf:=SRow.grown HT2.out h2 (by omega)
    have hcf:=SRow.grown HC.out h2 (by omega)
    have KK2:=hid hkf
    have H1:=hid hbf
    have H2:=hid htf
    have H3:=hid hcf
    have H4:=hid hrs
    have H5:=hid hrc
    have H6:=hid hsp
    have H7:=hid hsl
    have H8:=hid n4
    have H9:=hid n8
    obtain ⟨X0,Y0,X1,Y1,X2,Y2,-⟩:=hkf.rd
    have hlen2:=Ct key l l.length
    have HL2:=hid hlen2
    clear h1 h2 hcs hkf hbf htf hcf hrs hrc hsp hsl n4 n8 hlen2
    go_wp2_with fail
    obtain ⟨w9,e9,⟨d0,d1,d2,d3,d4,d5⟩,hb9,hg9⟩:=AN (w:=w) (x0:=O U key) (x1:=ψ A' l.length c') (x2:=ψ AT l.length cT) (x3:=ψ AC M.length cC) (x4:=ψ (some ⟨g10,0,none⟩) 2 2) (x5:=O U 1) (KK2.out.at_ (p:=w.1.size + 1) (t:=31) (cs:=#[O U 0,ψ none 0 0,ψ none 0 0,ψ none 0 0,ψ none 0 0,O U 0]) (by simp)) KK2.out.1 (by omega)
    rw [e9]
    refine bodyPost_ret (v:=σ #[O U key,ψ A' l.length c',ψ AT l.length cT,ψ AC M.length cC,ψ (some ⟨g10,0,none⟩) 2 2,O U 1]) (by simp [results,results23,go_sem,d0,d1,d2,d3,d4,d5]) rfl ⟨_,rfl,?_,hb9⟩
    have hwz:w.1.size + 1 < wr.1.size:=by omega
    have hir9:=Cm (Cm HIR.out (fun y hy=>H1.out.block y (Ax HIR.out y hy).2)) (fun y hy=>hg9.block y (by have:=(Ax HIR.out y hy).2;have:=H1.out.size;omega) (by intro e;injection e with e;have:=(Ax HIR.out y hy).1;omega))
    rw [HFV.out]
    unfold Cl
    rw [HM.out,<- HSL.out]
    refine ⟨A',c',AT,cT,AC,cC,g10,none,0,none,0,A4,c4,A8,c8,by simp only [vX];rw [HL2.out],AV hir9 (by omega),AV (SRow.grown H2.out hg9 (by omega)) (by omega),AV (SRow.grown H3.out hg9 (by omega)) (by omega),by omega,H7.out.grown hg9 (by intro e;injection e;omega),World.ownsRow_nil _ _ _ _,World.ownsRow_nil _ _ _ _,AV (SRow.grown H4.out hg9 (by omega)) (by omega),AV (SRow.grown H5.out hg9 (by omega)) (by omega),?_⟩
    have hA_:∀ y ∈ Ae (ψ A' l.length c'),y < u2.1.size:=fun y hy=>(Ax HIR.out y hy).2
    have hT1:∀ y ∈ Ae (ψ AT (Br key l l.length).length cT),u2.1.size + 1 <= y /\ y < wr.1.size:=fun y hy=>Ax HT2.out y hy
    have hC1:∀ y ∈ Ae (ψ AC M.length cC),u2.1.size + 1 <= y /\ y < wr.1.size:=fun y hy=>Ax HC.out y hy
    have h41:∀ y ∈ Ae (ψ A4 sT.length c4),wr.1.size <= y:=fun y hy=>(Ax H4.out y hy).1
    have h81:∀ y ∈ Ae (ψ A8 M.length c8),wr.1.size <= y:=fun y hy=>(Ax H5.out y hy).1
    have hTC:Sep (Ae (ψ AT (Br key l l.length).length cT)) (Ae (ψ AC M.length cC)):=by rw [HL2.out];exact Sk HS.out
    have hg1:∀ y ∈ [g10],wr.1.size <= y:=by intro y hy;rw [List.mem_singleton] at hy;subst hy;assumption
    have hN:∀ a,Sep a (Ae (ψ none (0:Nat) 0)):=fun a y _ hm=>by simp [Ae] at hm
    have lo:=fun {a c:List Nat} (N:Nat) (h:∀ y ∈ a,y < N) (k:∀ y ∈ c,N <= y)=>Da h k
    have aT:=lo _ hA_ (fun y hy=>by have:=(hT1 y hy).1;omega)
    have aC:=lo _ hA_ (fun y hy=>by have:=(hC1 y hy).1;omega)
    have aG:=lo _ hA_ (fun y hy=>by have:=hg1 y hy;omega)
    have a4:=lo _ hA_ (fun y hy=>by have:=h41 y hy;omega)
    have a8:=lo _ hA_ (fun y hy=>by have:=h81 y hy;omega)
    have tG:=lo _ (fun y hy=>(hT1 y hy).2) hg1
    have t4:=lo _ (fun y hy=>(hT1 y hy).2) h41
    have t8:=lo _ (fun y hy=>(hT1 y hy).2) h81
    have cG:=lo _ (fun y hy=>(hC1 y hy).2) hg1
    have c4_:=lo _ (fun y hy=>(hC1 y hy).2) h41
    have c8_:=lo _ (fun y hy=>(hC1 y hy).2) h81
    have g4:Sep [g10] (Ae (ψ A4 sT.length c4)):=by intro y hy hm;rw [List.mem_singleton] at hy;subst hy;exact H8.out hm
    have g8:Sep [g10] (Ae (ψ A8 M.length c8)):=by intro y hy hm;rw [List.mem_singleton] at hy;subst hy;exact H9.out hm
    show List.Pairwise Sep _
    refine .cons ?_ (.cons ?_ (.cons ?_ (.cons ?_ (.cons ?_ (.cons ?_ (.cons ?_ (.cons ?_ .nil)))))))
    ·intro l_ hl
     simp only [List.mem_cons,List.not_mem_nil,or_false] at hl
     rcases hl with rfl | rfl | rfl | rfl | rfl | rfl | rfl
     ·exact aT
     ·exact aC
     ·exact aG
     ·exact hN _
     ·exact hN _
     ·exact a4
     ·exact a8
    ·intro l_ hl
     simp only [List.mem_cons,List.not_mem_nil,or_false] at hl
     rcases hl with rfl | rfl | rfl | rfl | rfl | rfl
     ·exact hTC
     ·exact tG
     ·exact hN _
     ·exact hN _
     ·exact t4
     ·exact t8
    ·intro l_ hl
     simp only [List.mem_cons,List.not_mem_nil,or_false] at hl
     rcases hl with rfl | rfl | rfl | rfl | rfl
     ·exact cG
     ·exact hN _
     ·exact hN _
     ·exact c4_
     ·exact c8_
    ·intro l_ hl
     simp only [List.mem_cons,List.not_mem_nil,or_false] at hl
     rcases hl with rfl | rfl | rfl | rfl
     ·exact hN _
     ·exact hN _
     ·exact g4
     ·exact g8
    ·intro l_ hl
     simp only [List.mem_cons,List.not_mem_nil,or_false] at hl
     rcases hl with rfl | rfl | rfl
     ·exact hN _
     ·exact (hN _).symm
     ·exact (hN _).symm
    ·intro l_ hl
     simp only [List.mem_cons,List.not_mem_nil,or_false] at hl
     rcases hl with rfl | rfl
     ·exact (hN _).symm
     ·exact (hN _).symm
    ·intro l_ hl
     simp only [List.mem_cons,List.not_mem_nil,or_false] at hl
     subst hl
     exact H6.out
    ·intro l_ hl
     cases hl
def VolN.toG (x:VolN):VolG:=⟨x.key,x.counts,x.trusts,x.cells,[x.s0,x.s1],x.count⟩
def VolG.toN (x:VolG):VolN:=⟨x.key,x.counts,x.trusts,x.cells,x.slots.getD 0 default,x.slots.getD 1 default,x.count⟩
def Gy:VolG:=⟨0,[],[],[],[],0⟩
def optG (o:Option VolN):VolG:=o.elim Gy VolN.toG
def VolQ (u:World) (base:Nat) (o:Option VolN) (v:Value):Prop:=match o with | none=>v = σ #[O U 0,ψ none 0 0,ψ none 0 0,ψ none 0 0,ψ none 0 0,O U 0] | some x=>VolO u base x v
theorem RdG.zero (w:World) (Bd:Nat):RdG w Bd Gy (σ #[O U 0,ψ none 0 0,ψ none 0 0,ψ none 0 0,ψ none 0 0,O U 0]):=⟨none,0,none,0,none,0,none,0,rfl,fun i hi=>by simp [Gy] at hi,Sls.nil,Sls.nil,fun i hi=>by simp [Gy] at hi,lr _,lr _⟩
theorem VolR.toG {w:World} {Bd:Nat} {x:VolN} {v:Value} (h:VolR w Bd x v) (hs:∃ A c B d C e b o s,v = σ #[O U x.key,ψ A x.counts.length c,ψ B x.trusts.length d,ψ C x.cells.length e,ψ (some ⟨b,o,none⟩) 2 s,O U x.count] /\ 2 <= s):RdG w Bd x.toG v:=by
 obtain ⟨A,c,B,d,C,e,b,off,sc,rfl,h1,h2,h3,h4,h5,h6,h7⟩:=h
 obtain ⟨_,_,_,_,_,_,_,_,_,e1,h8⟩:=hs
 simp only [Value.agg.injEq,Array.mk.injEq,List.cons.injEq,Value.slice.injEq,true_and,and_true] at e1
 obtain ⟨-,-,-,-,rfl⟩:=e1
 refine ⟨A,c,B,d,C,e,_,sc,rfl,h1,h2,h3,fun i hi=>?_,h7,h8⟩
 simp only [VolN.toG,List.length_cons,List.length_nil] at hi
 obtain rfl | rfl:i = 0 \/ i = 1:=by omega
 ·exact ⟨b,off,rfl,h4,h5⟩
 ·exact ⟨b,off,rfl,h4,h6⟩
theorem VolQ.reads {u:World} {base:Nat} {o:Option VolN} {v:Value} (h:VolQ u base o v):RdG u u.1.size (optG o) v:=by
 cases o with
 | none=>have e:v = σ #[O U 0,ψ none 0 0,ψ none 0 0,ψ none 0 0,ψ none 0 0,O U 0]:=h;subst e;exact RdG.zero _ _
 | some x=>
   refine VolR.toG (VolO.reads h) ?_
   obtain ⟨A,c,B,d,C,e,g,A0,c0,C0,d0,A1,c1,C1,d1,rfl,-⟩:=h
   exact ⟨A,c,B,d,C,e,g,0,2,rfl,lr _⟩
def Mid (lo hi:Nat) (u v:World):Prop:=v.os = u.os /\ v.tape = u.tape /\ v.output = u.output /\ u.1.size <= v.1.size /\ ∀ k,k < u.1.size -> (k < lo \/ hi <= k) -> v.1[k]? = u.1[k]?
theorem Mid.refl (lo hi:Nat) (u:World):Mid lo hi u u:=⟨rfl,rfl,rfl,lr _,fun _ _ _=>rfl⟩
theorem Mid.trans {lo hi:Nat} {u v w:World} (h:Mid lo hi u v) (h':Mid lo hi v w):Mid lo hi u w:=
 ⟨h'.1.trans h.1,h'.2.1.trans h.2.1,h'.2.2.1.trans h.2.2.1,Nat.le_trans h.2.2.2.1 h'.2.2.2.1,fun k hk hr=>(h'.2.2.2.2 k (Nat.lt_of_lt_of_le hk h.2.2.2.1) hr).trans (h.2.2.2.2 k hk hr)⟩
theorem Mid.of {lo hi:Nat} {u v:World} {r:Option Nat} (hg:u.grownBy v r) (h:∀ k,r = some k -> lo <= k /\ k < hi):Mid lo hi u v:=
 ⟨hg.os,hg.tape,hg.output,hg.size,fun k hk hr=>hg.block k hk (fun e=>by have:=h k e.symm;omega)⟩
theorem Mid.of_below {lo hi:Nat} {u v:World} (h:Below u.1.size u v):Mid lo hi u v:=⟨h.os,h.tape,h.output,h.size,fun k hk _=>h.block k hk⟩
theorem Mid.below {lo hi:Nat} {u v:World} (h:Mid lo hi u v) (hl:lo <= u.1.size):Below lo u v:=⟨h.1,h.2.1,h.2.2.1,h.2.2.2.1,fun k hk=>h.2.2.2.2 k (by omega) (.inl hk)⟩
theorem OW {u u':World} {base t size n:Nat} {v:Value} {xs:List Value} (h:u.ownsRow base t size v n xs) (hs:∀ g,v.ownBlock = some g -> u'.1[g]? = u.1[g]?):u'.ownsRow base t size v n xs:=by
 refine ⟨h.1,?_⟩
 rcases h.2 with h0 | ⟨g,cap,cur,rfl,hb,hg,r⟩
 ·exact .inl h0
 ·exact .inr ⟨g,cap,cur,rfl,hb,(hs g rfl).trans hg,r⟩
theorem FP {u u':World} {base lo hi t size n:Nat} {v:Value} {xs:List Value} (h:u.ownsRow base t size v n xs) (hm:Mid lo hi u u') (hb:hi <= base):u'.ownsRow base t size v n xs:=
 OW h (fun g e=>hm.2.2.2.2 g (World.ownsRow.lt h g e).2 (.inr (Nat.le_trans hb (World.ownsRow.lt h g e).1)))
theorem VolO.mid {u u':World} {base lo hi:Nat} {x:VolN} {v:Value} (h:VolO u base x v) (hm:Mid lo hi u u') (hb:hi <= base):VolO u' base x v:=by
 obtain ⟨A,c,B,d,C,e,g,A0,c0,C0,d0,A1,c1,C1,d1,rfl,h1,h2,h3,h4,h5,h6,h7,h8,h9,h10⟩:=h
 exact ⟨A,c,B,d,C,e,g,A0,c0,C0,d0,A1,c1,C1,d1,rfl,FP h1 hm hb,FP h2 hm hb,FP h3 hm hb,h4,(hm.2.2.2.2 g h5.lt (.inr (Nat.le_trans hb h4))).trans h5,FP h6 hm hb,FP h7 hm hb,FP h8 hm hb,FP h9 hm hb,h10⟩

import Derived.Test.YteoijmejhdocdaaGreatDoorV10
namespace Go.Proofs.YteoijmejhdocdaaGreatDoor.Mx
open Go.ChangeShapes Go.WideShapes Go.ChangeAt Go.RowKit
set_option linter.unusedVariables false
open Go.Lib (hid)
open Go.Proofs.Tryz
set_option maxRecDepth 20000
set_option maxHeartbeats 64000000
open Value renaming int → O, slice → ψ, bool → φ, agg → σ
open IntKind renaming i64 → U
open Ending renaming returned → τ
structure VolN where
 key:Int
 counts:List Int
 trusts:List Tru
 cells:List Ce
 s0:SlN
 s1:SlN
 count:Int
abbrev vX (x:VolN) (A:Option Addr) (a:Nat) (B:Option Addr) (b:Nat) (C:Option Addr) (c p o s:Nat):Array Value:=#[O U x.key,ψ A x.counts.length a,ψ B x.trusts.length b,ψ C x.cells.length c,ψ (some ⟨p,o,none⟩) 2 s,O U x.count]
def Cv (k base t1 z1 n1:Nat) (xs:List Value) (t2 z2 n2:Nat) (ys:List Value) (mk:Value -> Value -> Value):Own:=
 ⟨k,k,fun v=>Ae (agg1 v) ++ Ae (agg3 v),fun _ v u=>∃ A c C d,v = mk (ψ A n1 c) (ψ C n2 d) /\ u.ownsRow base t1 z1 (ψ A n1 c) n1 xs /\ u.ownsRow base t2 z2 (ψ C n2 d) n2 ys /\ ∀ g ∈ Ae (ψ A n1 c),g ∉ Ae (ψ C n2 d)⟩
theorem Cv.stable (k base t1 z1 n1:Nat) (xs:List Value) (t2 z2 n2:Nat) (ys:List Value) (mk:Value -> Value -> Value) (hm:∀ s t,agg1 (mk s t) = s /\ agg3 (mk s t) = t):(Cv k base t1 z1 n1 xs t2 z2 n2 ys mk).Stable:=by
 intro d v u u' ⟨A,c,C,e,h0,h1,h2,h3⟩ hf
 subst h0
 refine ⟨A,c,C,e,rfl,Cm h1 (fun g hg=>hf g ?_),Cm h2 (fun g hg=>hf g ?_),h3⟩
 ·simp only [Cv];rw [(hm _ _).1];exact List.mem_append_left _ hg
 ·simp only [Cv];rw [(hm _ _).2];exact List.mem_append_right _ hg
def CJ (k:Nat) (t:TypeId):Own:=⟨k,k,Ae,fun _ v u=>∃ g cs,v = ψ (some ⟨g,0,none⟩) 2 2 /\ Aa u g t cs⟩
theorem CJ.stable (k:Nat) (t:TypeId):(CJ k t).Stable:=by
 intro d v u u' ⟨g,cs,e,h⟩ hf
 subst e
 exact ⟨g,cs,rfl,by unfold Aa at *;rw [hf g (by simp [CJ,Ae])];exact h⟩
def ArrX (k i j:Nat) (t:TypeId) (c0 m0 c1 m1:Int) (D:Nat -> Bool) (γ:Nat -> Value) (u:World):Prop:=
 D k = true -> D i = true /\ D j = true /\ ∃ g,γ k = ψ (some ⟨g,0,none⟩) 2 2 /\ Aa u g t #[O U c0,agg1 (γ i),O U m0,agg3 (γ i),O U c1,agg1 (γ j),O U m1,agg3 (γ j)]
def Both (P Q:(Nat -> Bool) -> (Nat -> Value) -> World -> Prop) (D:Nat -> Bool) (γ:Nat -> Value) (u:World):Prop:=P D γ u /\ Q D γ u
section
variable {k i j q:Nat} {t:TypeId} {c0 m0 c1 m1:Int} {D:Nat -> Bool} {γ γ':Nat -> Value} {u v:World} {w:Value}
theorem ArrX.loc (ha:∀ i,D i = true -> γ i = γ' i) (h:ArrX k i j t c0 m0 c1 m1 D γ u):ArrX k i j t c0 m0 c1 m1 D γ' u:=by
 intro e
 obtain ⟨h1,h2,g,h3,h4⟩:=h e
 refine ⟨h1,h2,g,by rw [<- ha _ e];exact h3,?_⟩
 rw [<- ha _ h1,<- ha _ h2];exact h4
theorem ArrX.step (h:ArrX k i j t c0 m0 c1 m1 D γ u) (hD:D q = false) (hq:q ≠ k) (hf:D k = true -> ∀ g ∈ Ae (γ k),v.1[g]? = u.1[g]?):ArrX k i j t c0 m0 c1 m1 (setD D q) (setG γ q w) v:=by
 intro e
 have e':D k = true:=by unfold setD at e;simpa [Ne.symm hq] using e
 obtain ⟨h1,h2,g,h3,h4⟩:=h e'
 have ni:i ≠ q:=by rintro rfl;rw [hD] at h1;cases h1
 have nj:j ≠ q:=by rintro rfl;rw [hD] at h2;cases h2
 unfold setD setG
 rw [if_neg ni,if_neg nj,if_neg (Ne.symm hq)]
 refine ⟨by rw [h1];simp,by rw [h2];simp,g,h3,?_⟩
 unfold Aa at *
 rw [hf e' g (by rw [h3];simp [Ae])];exact h4
end
def VolO (u:World) (base:Nat) (x:VolN) (v:Value):Prop:=
 ∃ A c B d C e g A0 c0 C0 d0 A1 c1 C1 d1,v = σ #[O U x.key,ψ A x.counts.length c,ψ B x.trusts.length d,ψ C x.cells.length e,ψ (some ⟨g,0,none⟩) 2 2,O U x.count] /\
   IRow u base (ψ A x.counts.length c) x.counts /\ Bl u base (ψ B x.trusts.length d) x.trusts /\ Bv u base (ψ C x.cells.length e) x.cells /\ base <= g /\
   Aa u g 91 #[O U x.s0.count,ψ A0 x.s0.trusts.length c0,O U x.s0.mac,ψ C0 x.s0.cells.length d0,O U x.s1.count,ψ A1 x.s1.trusts.length c1,O U x.s1.mac,ψ C1 x.s1.cells.length d1] /\
   Bl u base (ψ A0 x.s0.trusts.length c0) x.s0.trusts /\ Bv u base (ψ C0 x.s0.cells.length d0) x.s0.cells /\ Bl u base (ψ A1 x.s1.trusts.length c1) x.s1.trusts /\ Bv u base (ψ C1 x.s1.cells.length d1) x.s1.cells /\
   [Ae (ψ A x.counts.length c),Ae (ψ B x.trusts.length d),Ae (ψ C x.cells.length e),[g],Ae (ψ A0 x.s0.trusts.length c0),Ae (ψ C0 x.s0.cells.length d0),Ae (ψ A1 x.s1.trusts.length c1),Ae (ψ C1 x.s1.cells.length d1)].Pairwise fun a b=>∀ y ∈ a,y ∉ b
def PQ (b:World) (x:VolN) (e:Ending) (w':World):Prop:=∃ v,e = τ v /\ VolO w' b.1.size x v /\ Below b.1.size b w'
def VolN.Short (x:VolN):Prop:=x.counts.length <= 1048576 /\ x.trusts.length <= 1048576 /\ x.cells.length <= 1048576 /\ x.s0.trusts.length <= 1048576 /\ x.s0.cells.length <= 1048576 /\ x.s1.trusts.length <= 1048576 /\ x.s1.cells.length <= 1048576
theorem JA:(prog.info? 91).map (fun i=>(i.zero,i.size,i.bytes)) = some (some (σ #[O U 0,ψ none 0 0,O U 0,ψ none 0 0]),4,64):=by kernel_rfl
theorem Dy (x:VolN) (A:Option Addr) (cap:Nat) (B:Option Addr) (tc:Nat) (C:Option Addr) (cc:Nat) (b off sc:Nat) (w:World) (hx:x.Short)
    (hA:Ints w U w.1.size A x.counts) (hB:Trs w w.1.size B x.trusts) (hC:Cls w w.1.size C x.cells) (hb:b < w.1.size) (h0:Bq w w.1.size b off x.s0) (h1:Bq w w.1.size b (off + 4) x.s1):
    Calls prog 99 #[σ #[O U x.key,ψ A x.counts.length cap,ψ B x.trusts.length tc,ψ C x.cells.length cc,ψ (some ⟨b,off,none⟩) 2 sc,O U x.count]] w (PQ w x):=by
 have K0:=hid (show Kept w [(w.1.size + 1,31,#[O U 0,ψ none 0 0,ψ none 0 0,ψ none 0 0,ψ none 0 0,O U 0]),(w.1.size,31,#[O U x.key,ψ A x.counts.length cap,ψ B x.trusts.length tc,ψ C x.cells.length cc,ψ (some ⟨b,off,none⟩) 2 sc,O U x.count])] _ from (((Kept.refl w).put1 _ _ #[O U x.key,ψ A x.counts.length cap,ψ B x.trusts.length tc,ψ C x.cells.length cc,ψ (some ⟨b,off,none⟩) 2 sc,O U x.count] rfl).put1 _ _ #[O U 0,ψ none 0 0,ψ none 0 0,ψ none 0 0,ψ none 0 0,O U 0] (by simp)))
 obtain ⟨x1,x2,x3,x4,x5,x6,x7⟩:=hx
 have PC:=hid (fun (u:World) (hb:Below w.1.size w u)=>IE x.key A x.counts cap u x1 ((hA.below hb (lr _)).more hb.size))
 have TC:=hid (fun (u:World) (hb:Below w.1.size w u)=>Em B x.trusts tc u x2 ((hB.below hb (lr _)).more hb.size))
 have NW:=hid (fun (u:World) (hb:Below w.1.size w u)=>Sls.news Au (by omega) (hC.below hb (lr _)))
 obtain ⟨B0,t0,D0,q0,k0,k1,k2,k3,hr0⟩:=h0
 obtain ⟨B1,t1,D1,q1,k4,k5,k6,k7,hr1⟩:=h1
 rw [show off + 4 + 1 = off + 5 by omega] at k5
 rw [show off + 4 + 2 = off + 6 by omega] at k6
 rw [show off + 4 + 3 = off + 7 by omega] at k7
 have S0:=hid (fun (u:World) (hb:Below w.1.size w u)=>Hw x.s0.count B0 x.s0.trusts t0 x.s0.mac D0 x.s0.cells q0 u x4 ((hr0.1.below hb (lr _)).more hb.size) x5 ((hr0.2.below hb (lr _)).more hb.size))
 have S1:=hid (fun (u:World) (hb:Below w.1.size w u)=>Hw x.s1.count B1 x.s1.trusts t1 x.s1.mac D1 x.s1.cells q1 u x6 ((hr1.1.below hb (lr _)).more hb.size) x7 ((hr1.2.below hb (lr _)).more hb.size))
 clear hA hB hC hr0 hr1
 go_enter func99,ntmps99
 go_upto_region 1 with fail
 have hk:=K0.out
 generalize (w.alloc _).alloc _ = w0 at hk |-
 have lm0:w.1.size < w0.1.size:=hk.lt (x:=(w.1.size,31,#[O U x.key,ψ A x.counts.length cap,ψ B x.trusts.length tc,ψ C x.cells.length cc,ψ (some ⟨b,off,none⟩) 2 sc,O U x.count])) (by simp)
 have lm1:w.1.size + 1 < w0.1.size:=hk.lt (x:=(w.1.size + 1,31,#[O U 0,ψ none 0 0,ψ none 0 0,ψ none 0 0,ψ none 0 0,O U 0])) (by simp)
 have hn0:Kept w [(w.1.size,31,#[O U x.key,ψ A x.counts.length cap,ψ B x.trusts.length tc,ψ C x.cells.length cc,ψ (some ⟨b,off,none⟩) 2 sc,O U x.count])] _:=hk.sub (by intro y hy;simp at hy |-;subst hy;simp)
 have hcz:=hk.at_ (p:=w.1.size + 1) (t:=31) (cs:=#[O U 0,ψ none 0 0,ψ none 0 0,ψ none 0 0,ψ none 0 0,O U 0]) (by simp)
 have hok:OutB.Ok (⟨w.1.size + 1,31,6,24,[2,5,9,20],fun γ=>#[O U x.key,agg1 (γ 2),γ 5,γ 9,γ 20,O U x.count]⟩:OutB) w (w0.1.size) [(w.1.size,31,#[O U x.key,ψ A x.counts.length cap,ψ B x.trusts.length tc,ψ C x.cells.length cc,ψ (some ⟨b,off,none⟩) 2 sc,O U x.count])]:=⟨by simp only [] <;> omega,by simp only [] <;> omega,by intro y hy;simp only [List.mem_cons,List.not_mem_nil,or_false] at hy;subst hy <;> (simp only [];omega),fun γ γ' ha=>by simp only [];rw [ha 2 (by simp),ha 5 (by simp),ha 9 (by simp),ha 20 (by simp)],fun γ=>rfl,by simp⟩
 have hstab:∀ zz ∈ ([Ei 2 w.1.size 2 1 x.counts.length (x.counts.map (Value.int U)) (fun s=>σ #[O U x.key,s]),AE 5 w.1.size 94 8 x.trusts.length (Af truV x.trusts),Dn 6 9 w.1.size 118 2,AE 9 w.1.size 118 2 x.cells.length (Af ceV x.cells),Cv 14 w.1.size 94 8 x.s0.trusts.length (Af truV x.s0.trusts) 118 2 x.s0.cells.length (Af ceV x.s0.cells) (fun s t=>σ #[O U x.s0.count,s,O U x.s0.mac,t]),Cv 19 w.1.size 94 8 x.s1.trusts.length (Af truV x.s1.trusts) 118 2 x.s1.cells.length (Af ceV x.s1.cells) (fun s t=>σ #[O U x.s1.count,s,O U x.s1.mac,t]),CJ 20 91]:List Own),zz.Stable:=by
  intro y hy
  simp only [List.mem_cons,List.not_mem_nil,or_false] at hy
  rcases hy with rfl | rfl | rfl | rfl | rfl | rfl | rfl
  ·exact Ei.stable _ _ _ _ _ _ _ (fun s=>rfl)
  ·exact AE.stable _ _ _ _ _ _
  ·exact Dn.stable _ _ _ _ _
  ·exact AE.stable _ _ _ _ _ _
  ·exact Cv.stable _ _ _ _ _ _ _ _ _ _ _ (fun s t=>⟨rfl,rfl⟩)
  ·exact Cv.stable _ _ _ _ _ _ _ _ _ _ _ (fun s t=>⟨rfl,rfl⟩)
  ·exact CJ.stable _ _
 have hstart:∀ γ,OwnR w (w0.1.size) [(w.1.size,31,#[O U x.key,ψ A x.counts.length cap,ψ B x.trusts.length tc,ψ C x.cells.length cc,ψ (some ⟨b,off,none⟩) 2 sc,O U x.count])] [Ei 2 w.1.size 2 1 x.counts.length (x.counts.map (Value.int U)) (fun s=>σ #[O U x.key,s]),AE 5 w.1.size 94 8 x.trusts.length (Af truV x.trusts),Dn 6 9 w.1.size 118 2,AE 9 w.1.size 118 2 x.cells.length (Af ceV x.cells),Cv 14 w.1.size 94 8 x.s0.trusts.length (Af truV x.s0.trusts) 118 2 x.s0.cells.length (Af ceV x.s0.cells) (fun s t=>σ #[O U x.s0.count,s,O U x.s0.mac,t]),Cv 19 w.1.size 94 8 x.s1.trusts.length (Af truV x.s1.trusts) 118 2 x.s1.cells.length (Af ceV x.s1.cells) (fun s t=>σ #[O U x.s1.count,s,O U x.s1.mac,t]),CJ 20 91] (fun i j=>(i == 6 && j == 9) || (i == 9 && j == 6)) (⟨w.1.size + 1,31,6,24,[2,5,9,20],fun γ=>#[O U x.key,agg1 (γ 2),γ 5,γ 9,γ 20,O U x.count]⟩:OutB) (fun _=>false) γ _:=fun γ=>OwnR.start hn0 hn0.1.size (lr _) (by intro y hy;simp only [List.mem_cons,List.not_mem_nil,or_false] at hy;subst hy <;> (simp only [];omega)) hcz rfl
 refine Ao [false,false,true,false,false,true,true,false,false,true,false,false,false,false,true,false,false,false,false,true,true,false,false,false,true] (ShL [(2,fun v=>∃ (A:Option Addr) (c:Nat),v = σ #[O U x.key,ψ A x.counts.length c]),(5,fun v=>∃ (A:Option Addr) (c:Nat),v = ψ A x.trusts.length c),(6,fun v=>∃ g:Nat,v = ψ (some ⟨g,0,none⟩) 0 0),(9,fun v=>∃ (A:Option Addr) (c:Nat),v = ψ A x.cells.length c),(14,fun v=>∃ (A:Option Addr) (c:Nat) (C:Option Addr) (d:Nat),v = σ #[O U x.s0.count,ψ A x.s0.trusts.length c,O U x.s0.mac,ψ C x.s0.cells.length d]),(19,fun v=>∃ (A:Option Addr) (c:Nat) (C:Option Addr) (d:Nat),v = σ #[O U x.s1.count,ψ A x.s1.trusts.length c,O U x.s1.mac,ψ C x.s1.cells.length d]),(20,fun v=>∃ g:Nat,v = ψ (some ⟨g,0,none⟩) 2 2)]) (Both (fun D γ u=>OwnR w (w0.1.size) [(w.1.size,31,#[O U x.key,ψ A x.counts.length cap,ψ B x.trusts.length tc,ψ C x.cells.length cc,ψ (some ⟨b,off,none⟩) 2 sc,O U x.count])] [Ei 2 w.1.size 2 1 x.counts.length (x.counts.map (Value.int U)) (fun s=>σ #[O U x.key,s]),AE 5 w.1.size 94 8 x.trusts.length (Af truV x.trusts),Dn 6 9 w.1.size 118 2,AE 9 w.1.size 118 2 x.cells.length (Af ceV x.cells),Cv 14 w.1.size 94 8 x.s0.trusts.length (Af truV x.s0.trusts) 118 2 x.s0.cells.length (Af ceV x.s0.cells) (fun s t=>σ #[O U x.s0.count,s,O U x.s0.mac,t]),Cv 19 w.1.size 94 8 x.s1.trusts.length (Af truV x.s1.trusts) 118 2 x.s1.cells.length (Af ceV x.s1.cells) (fun s t=>σ #[O U x.s1.count,s,O U x.s1.mac,t]),CJ 20 91] (fun i j=>(i == 6 && j == 9) || (i == 9 && j == 6)) (⟨w.1.size + 1,31,6,24,[2,5,9,20],fun γ=>#[O U x.key,agg1 (γ 2),γ 5,γ 9,γ 20,O U x.count]⟩:OutB) D γ u) (ArrX 20 14 19 91 x.s0.count x.s0.mac x.s1.count x.s1.mac)) (by kernel_rfl) (by kernel_rfl) (fun γ=>by kernel_rfl) (fun D γ γ' w ha h=>⟨h.1.loc hok ha,h.2.loc ha⟩) (ShL.inh _ ?inh) (fun γ=>⟨hstart γ,fun e=>(by cases e)⟩) (fun γ hγ=>?_)
 case inh=>
  intro y hy
  simp only [List.mem_cons,List.not_mem_nil,or_false] at hy
  rcases hy with rfl | rfl | rfl | rfl | rfl | rfl | rfl
  ·exact ⟨_,none,0,rfl⟩
  ·exact ⟨_,none,0,rfl⟩
  ·exact ⟨_,0,rfl⟩
  ·exact ⟨_,none,0,rfl⟩
  ·exact ⟨_,none,0,none,0,rfl⟩
  ·exact ⟨_,none,0,none,0,rfl⟩
  ·exact ⟨_,0,rfl⟩
 clear hstart hn0 hcz
 obtain ⟨A2,c2,g2⟩:∃ (A:Option Addr) (c:Nat),γ 2 = σ #[O U x.key,ψ A x.counts.length c]:=hγ 2 rfl
 obtain ⟨A4,c4,g5⟩:∃ (A:Option Addr) (c:Nat),γ 5 = ψ A x.trusts.length c:=hγ 5 rfl
 obtain ⟨gn,g6⟩:∃ g:Nat,γ 6 = ψ (some ⟨g,0,none⟩) 0 0:=hγ 6 rfl
 obtain ⟨A9,c9,g9⟩:∃ (A:Option Addr) (c:Nat),γ 9 = ψ A x.cells.length c:=hγ 9 rfl
 obtain ⟨A0,c0,C0,d0',g14⟩:∃ (A:Option Addr) (c:Nat) (C:Option Addr) (d:Nat),γ 14 = σ #[O U x.s0.count,ψ A x.s0.trusts.length c,O U x.s0.mac,ψ C x.s0.cells.length d]:=hγ 14 rfl
 obtain ⟨A1,c1,C1,d1',g19⟩:∃ (A:Option Addr) (c:Nat) (C:Option Addr) (d:Nat),γ 19 = σ #[O U x.s1.count,ψ A x.s1.trusts.length c,O U x.s1.mac,ψ C x.s1.cells.length d]:=hγ 19 rfl
 obtain ⟨ga,g20⟩:∃ g:Nat,γ 20 = ψ (some ⟨g,0,none⟩) 2 2:=hγ 20 rfl
 have g24:γ 24 = undef:=hγ 24 rfl
 clear hk
 apply Exists.intro
 refine ⟨fun D=>?_,?_,?_⟩
 ·simp only [AP,cond_true,cond_false,Nat.reduceAdd,g2,g5,g6,g9,g14,g19,g20,g24]
  iterate 25 (first
   | go_big_quiet_skip
   | (go_big_quiet_want
      go_big_quiet_op
      first
       | go_big_quiet_on
       | (apply Exists.intro
          refine ⟨fun u hu=>?_,?_⟩
          ·first
             | with_reducible rfl
             | (obtain ⟨X0,Y0,-⟩:=hu.1.1.1.1.rd;have e0:=(hu.1.1.1.1.1.cell (p:=⟨b,off,none⟩) hb).trans k0;have e1:=(hu.1.1.1.1.1.cell (p:=⟨b,off + 1,none⟩) hb).trans k1;have e2:=(hu.1.1.1.1.1.cell (p:=⟨b,off + 2,none⟩) hb).trans k2;have e3:=(hu.1.1.1.1.1.cell (p:=⟨b,off + 3,none⟩) hb).trans k3;have e4:=(hu.1.1.1.1.1.cell (p:=⟨b,off + 4,none⟩) hb).trans k4;have e5:=(hu.1.1.1.1.1.cell (p:=⟨b,off + 5,none⟩) hb).trans k5;have e6:=(hu.1.1.1.1.1.cell (p:=⟨b,off + 6,none⟩) hb).trans k6;have e7:=(hu.1.1.1.1.1.cell (p:=⟨b,off + 7,none⟩) hb).trans k7;go_simp;first | done | with_reducible rfl)
          go_big_quiet_on)))
  exact wpQuiet_nil rfl
 ·simp only [AY,Nat.reduceAdd]
  refine ⟨fun D u hD hd hu=>?_,fun D u hD hd hu=>?_,fun D u hD hd hu=>?_,fun D u hD hd hu=>?_,fun D u hD hd hu=>?_,fun D u hD hd hu=>?_,fun D u hD hd hu=>?_,fun D u hD hd hu=>?_,trivial⟩
  ·refine As ((PC.out u hu.1.1.1.1.1).mono ?_) rfl rfl rfl rfl (by kernel_rfl)
   rintro e w' ⟨A5,c5,rfl,hrow,hb⟩
   refine ⟨_,rfl,⟨A5,c5,rfl⟩,?_⟩
   exact ⟨hu.1.made hok hstab (z:=Ei 2 w.1.size 2 1 x.counts.length (x.counts.map (Value.int U)) (fun s=>σ #[O U x.key,s])) (by simp) (by intro y hy;simp only [List.mem_cons,List.not_mem_nil,or_false] at hy;rcases hy with rfl | rfl | rfl | rfl | rfl | rfl | rfl;exact .inl rfl;exact .inr ⟨(nq rfl),(nq rfl)⟩;exact .inr ⟨(nq rfl),(nq rfl)⟩;exact .inr ⟨(nq rfl),(nq rfl)⟩;exact .inr ⟨(nq rfl),(nq rfl)⟩;exact .inr ⟨(nq rfl),(nq rfl)⟩;exact .inr ⟨(nq rfl),(nq rfl)⟩) hD (nq rfl) hb ⟨A5,c5,rfl,AV hrow hu.1.1.1.1.1.size⟩ (fun g hg=>Ef hrow g hg),hu.2.step hD (nq rfl) (fun d g hg=>hb.block g ((hu.1.1.at_ (z:=CJ 20 91) (by simp) d).2 g hg).2)⟩
  ·refine As ((TC.out u hu.1.1.1.1.1).mono ?_) rfl rfl rfl rfl (by kernel_rfl)
   rintro e w' ⟨v5,rfl,hrow,hb⟩
   obtain ⟨A5,c5,rfl,_,_⟩:=hrow.reads AD
   refine ⟨_,rfl,⟨A5,c5,rfl⟩,?_⟩
   exact ⟨hu.1.made hok hstab (z:=AE 5 w.1.size 94 8 x.trusts.length (Af truV x.trusts)) (by simp) (by intro y hy;simp only [List.mem_cons,List.not_mem_nil,or_false] at hy;rcases hy with rfl | rfl | rfl | rfl | rfl | rfl | rfl;exact .inr ⟨(nq rfl),(nq rfl)⟩;exact .inl rfl;exact .inr ⟨(nq rfl),(nq rfl)⟩;exact .inr ⟨(nq rfl),(nq rfl)⟩;exact .inr ⟨(nq rfl),(nq rfl)⟩;exact .inr ⟨(nq rfl),(nq rfl)⟩;exact .inr ⟨(nq rfl),(nq rfl)⟩) hD (nq rfl) hb (AV hrow hu.1.1.1.1.1.size) (fun g hg=>Ef hrow g hg),hu.2.step hD (nq rfl) (fun d g hg=>hb.block g ((hu.1.1.at_ (z:=CJ 20 91) (by simp) d).2 g hg).2)⟩
  ·refine BQ 28 118 rfl underlying28 (by kernel_rfl) ?_
   refine ⟨⟨_,rfl⟩,?_⟩
   have hb:Below u.1.size u (u.alloc (.cells #[] 118)):=(Below.refl _ _).alloc (lr _) _
   exact ⟨hu.1.made hok hstab (z:=Dn 6 9 w.1.size 118 2) (by simp) (by intro y hy;simp only [List.mem_cons,List.not_mem_nil,or_false] at hy;rcases hy with rfl | rfl | rfl | rfl | rfl | rfl | rfl;exact .inr ⟨(nq rfl),(nq rfl)⟩;exact .inr ⟨(nq rfl),(nq rfl)⟩;exact .inl rfl;exact .inr ⟨(nq rfl),(nq rfl)⟩;exact .inr ⟨(nq rfl),(nq rfl)⟩;exact .inr ⟨(nq rfl),(nq rfl)⟩;exact .inr ⟨(nq rfl),(nq rfl)⟩) hD (nq rfl) hb (fun _=>⟨_,rfl,World.ownsRow_made u #[] 0 hu.1.1.1.1.1.size (by simp [maxLen]) (by simp)⟩) (by intro g hg;simp only [Dn,List.mem_singleton] at hg;subst hg;exact ⟨lr _,by simp⟩),hu.2.step hD (nq rfl) (fun d g hg=>hb.block g ((hu.1.1.at_ (z:=CJ 20 91) (by simp) d).2 g hg).2)⟩
  ·have d3:=hd { on:=6,ground:=Ground.data } (by simp) rfl rfl
   obtain ⟨h3,-⟩:=hu.1.1.at_ (z:=Dn 6 9 w.1.size 118 2) (by simp) d3
   obtain ⟨g0,e0,hown0⟩:=h3 hD
   have e1:γ 6 = ψ (some ⟨g0,0,none⟩) 0 0:=e0
   obtain rfl:gn = g0:=by rw [g6] at e1;simpa using e1
   have hown1:u.ownsRow w.1.size 118 2 (γ 6) 0 []:=hown0
   rw [g6] at hown1
   have hfar:D 20 = true -> ∀ g ∈ Ae (γ 20),g ∉ Ae (γ 6):=fun d g hg=>hu.1.1.2.2.2.2.2.2.1 (CJ 20 91) (by simp) (Dn 6 9 w.1.size 118 2) (by simp) (nq rfl) rfl d d3 g hg
   rw [g6] at hfar
   refine Cr _ _ 28 rfl w.1.size 118 2 16 0 (σ #[O U 0,O U 0]) (ψ (some ⟨gn,0,none⟩) 0 0) [] C x.cells.length cc (Af ceV x.cells) underlying28 Dp rfl (by omega) rfl hown1 rfl (Ak Au) (NW.out u hu.1.1.1.1.1) (DW x.cells) (by unfold maxLen;omega) (by omega) hu.1.1.1.1.1.size ?_
   intro v' w' hown hg hb2
   have hrow:Bv w' w.1.size v' x.cells:=by have h:=hown;simp only [Nat.zero_add,List.nil_append] at h;exact h
   obtain ⟨A6,c6,rfl,_,_⟩:=hrow.reads Au
   refine ⟨⟨A6,c6,rfl⟩,?_⟩
   refine ⟨hu.1.moved hok hstab (y:=Dn 6 9 w.1.size 118 2) (z:=AE 9 w.1.size 118 2 x.cells.length (Af ceV x.cells)) (p:=gn) (by simp) (by simp) rfl rfl d3 (by intro y hy;simp only [List.mem_cons,List.not_mem_nil,or_false] at hy;rcases hy with rfl | rfl | rfl | rfl | rfl | rfl | rfl;exact .inr (.inr ⟨(nq rfl),(nq rfl),(nq rfl),rfl,rfl⟩);exact .inr (.inr ⟨(nq rfl),(nq rfl),(nq rfl),rfl,rfl⟩);exact .inr (.inl rfl);exact .inl rfl;exact .inr (.inr ⟨(nq rfl),(nq rfl),(nq rfl),rfl,rfl⟩);exact .inr (.inr ⟨(nq rfl),(nq rfl),(nq rfl),rfl,rfl⟩);exact .inr (.inr ⟨(nq rfl),(nq rfl),(nq rfl),rfl,rfl⟩)) (nq rfl) ⟨rfl,rfl⟩ hD (nq rfl) (show Ae (γ 6) = [gn] by rw [g6];rfl) hg hrow (fun e=>by cases e) ?_ ?_,hu.2.step hD (nq rfl) (fun d g hgf=>hg.block g ((hu.1.1.at_ (z:=CJ 20 91) (by simp) d).2 g hgf).2 (by intro e;injection e with e;exact hfar d g hgf (by rw [e];simp [Ae])))⟩
   ·intro g hgf
    rcases hb2 with h | h
    ·left
     cases A6 with
     | none=>cases hgf
     | some a=>simp [Value.ownBlock] at h;simp only [AE,List.mem_singleton] at hgf;omega
    ·right
     cases A6 with
     | none=>cases hgf
     | some a=>simp [Value.ownBlock] at h;simp only [AE,List.mem_singleton] at hgf;omega
   ·intro g hgf
    cases A6 with
    | none=>cases hgf
    | some a=>simp only [AE,List.mem_singleton] at hgf;subst hgf;exact (hrow.lt rfl).2
  ·refine As ((S0.out u hu.1.1.1.1.1).mono ?_) rfl rfl rfl rfl (by kernel_rfl)
   rintro e w' ⟨A5,c5,C5,d5,rfl,hr1,hr2,hdj,hb⟩
   refine ⟨_,rfl,⟨A5,c5,C5,d5,rfl⟩,?_⟩
   exact ⟨hu.1.made hok hstab (z:=Cv 14 w.1.size 94 8 x.s0.trusts.length (Af truV x.s0.trusts) 118 2 x.s0.cells.length (Af ceV x.s0.cells) (fun s t=>σ #[O U x.s0.count,s,O U x.s0.mac,t])) (by simp) (by intro y hy;simp only [List.mem_cons,List.not_mem_nil,or_false] at hy;rcases hy with rfl | rfl | rfl | rfl | rfl | rfl | rfl;exact .inr ⟨(nq rfl),(nq rfl)⟩;exact .inr ⟨(nq rfl),(nq rfl)⟩;exact .inr ⟨(nq rfl),(nq rfl)⟩;exact .inr ⟨(nq rfl),(nq rfl)⟩;exact .inl rfl;exact .inr ⟨(nq rfl),(nq rfl)⟩;exact .inr ⟨(nq rfl),(nq rfl)⟩) hD (nq rfl) hb ⟨A5,c5,C5,d5,rfl,AV hr1 hu.1.1.1.1.1.size,AV hr2 hu.1.1.1.1.1.size,hdj⟩ (fun g hg=>by rcases List.mem_append.1 hg with h | h;exact Ef hr1 g h;exact Ef hr2 g h),hu.2.step hD (nq rfl) (fun d g hg=>hb.block g ((hu.1.1.at_ (z:=CJ 20 91) (by simp) d).2 g hg).2)⟩
  ·refine As ((S1.out u hu.1.1.1.1.1).mono ?_) rfl rfl rfl rfl (by kernel_rfl)
   rintro e w' ⟨A5,c5,C5,d5,rfl,hr1,hr2,hdj,hb⟩
   refine ⟨_,rfl,⟨A5,c5,C5,d5,rfl⟩,?_⟩
   exact ⟨hu.1.made hok hstab (z:=Cv 19 w.1.size 94 8 x.s1.trusts.length (Af truV x.s1.trusts) 118 2 x.s1.cells.length (Af ceV x.s1.cells) (fun s t=>σ #[O U x.s1.count,s,O U x.s1.mac,t])) (by simp) (by intro y hy;simp only [List.mem_cons,List.not_mem_nil,or_false] at hy;rcases hy with rfl | rfl | rfl | rfl | rfl | rfl | rfl;exact .inr ⟨(nq rfl),(nq rfl)⟩;exact .inr ⟨(nq rfl),(nq rfl)⟩;exact .inr ⟨(nq rfl),(nq rfl)⟩;exact .inr ⟨(nq rfl),(nq rfl)⟩;exact .inr ⟨(nq rfl),(nq rfl)⟩;exact .inl rfl;exact .inr ⟨(nq rfl),(nq rfl)⟩) hD (nq rfl) hb ⟨A5,c5,C5,d5,rfl,AV hr1 hu.1.1.1.1.1.size,AV hr2 hu.1.1.1.1.1.size,hdj⟩ (fun g hg=>by rcases List.mem_append.1 hg with h | h;exact Ef hr1 g h;exact Ef hr2 g h),hu.2.step hD (nq rfl) (fun d g hg=>hb.block g ((hu.1.1.at_ (z:=CJ 20 91) (by simp) d).2 g hg).2)⟩
  ·have d14:=hd { on:=14,ground:=Ground.data } (by simp) rfl rfl
   have d19:=hd { on:=19,ground:=Ground.data } (by simp) rfl rfl
   refine GV 29 91 2 4 64 (σ #[O U 0,ψ none 0 0,O U 0,ψ none 0 0]) _ #[O U x.s0.count,ψ A0 x.s0.trusts.length c0,O U x.s0.mac,ψ C0 x.s0.cells.length d0',O U x.s1.count,ψ A1 x.s1.trusts.length c1,O U x.s1.mac,ψ C1 x.s1.cells.length d1'] rfl underlying29 JA (by omega) (by omega) (by simp [Instr.fill,Value.cells,go_sem]) ⟨⟨_,rfl⟩,?_⟩
   have hb:Below u.1.size u (u.alloc (.cells #[O U x.s0.count,ψ A0 x.s0.trusts.length c0,O U x.s0.mac,ψ C0 x.s0.cells.length d0',O U x.s1.count,ψ A1 x.s1.trusts.length c1,O U x.s1.mac,ψ C1 x.s1.cells.length d1'] 91)):=(Below.refl _ _).alloc (lr _) _
   refine ⟨hu.1.made hok hstab (z:=CJ 20 91) (by simp) (by intro y hy;simp only [List.mem_cons,List.not_mem_nil,or_false] at hy;rcases hy with rfl | rfl | rfl | rfl | rfl | rfl | rfl;exact .inr ⟨(nq rfl),(nq rfl)⟩;exact .inr ⟨(nq rfl),(nq rfl)⟩;exact .inr ⟨(nq rfl),(nq rfl)⟩;exact .inr ⟨(nq rfl),(nq rfl)⟩;exact .inr ⟨(nq rfl),(nq rfl)⟩;exact .inr ⟨(nq rfl),(nq rfl)⟩;exact .inl rfl) hD (nq rfl) hb ⟨_,_,rfl,Aa.new u 91 _⟩ (by intro g hg;simp only [CJ,Ae,List.mem_singleton] at hg;subst hg;exact ⟨lr _,by simp⟩),fun _=>⟨by simp [setD,d14],by simp [setD,d19],u.1.size,by simp [setG],?_⟩⟩
   simp only [setG,Nat.reduceEqDiff,if_false,g14,g19,agg1,agg3]
   exact Aa.new u 91 #[O U x.s0.count,ψ A0 x.s0.trusts.length c0,O U x.s0.mac,ψ C0 x.s0.cells.length d0',O U x.s1.count,ψ A1 x.s1.trusts.length c1,O U x.s1.mac,ψ C1 x.s1.cells.length d1']
  ·obtain ⟨z,hz,hzs⟩:=hu.1.box
   refine AI hz rfl rfl (show _ = Value.agg #[O U x.key,ψ A2 x.counts.length c2,ψ A4 x.trusts.length c4,ψ A9 x.cells.length c9,ψ (some ⟨ga,0,none⟩) 2 2,O U x.count] from rfl) (by kernel_rfl) hzs (by simp [Value.oneCell']) (fun w' hc hg=>⟨rfl,⟨hu.1.stored hok hstab (by intro y hy;simp only [List.mem_cons,List.not_mem_nil,or_false] at hy;rcases hy with rfl | rfl | rfl | rfl | rfl | rfl | rfl <;> exact ⟨nq rfl,nq rfl⟩) (by intro y hy;simp only [List.mem_cons,List.not_mem_nil,or_false] at hy;rcases hy with rfl | rfl | rfl | rfl;exact hd { on:=2,ground:=Ground.phase } (by simp) rfl rfl;exact hd { on:=5,ground:=Ground.phase } (by simp) rfl rfl;exact hd { on:=9,ground:=Ground.phase } (by simp) rfl rfl;exact hd { on:=20,ground:=Ground.phase } (by simp) rfl rfl) hg ?_ _,hu.2.step hD (nq rfl) (fun d g hgf=>hg.block g ((hu.1.1.at_ (z:=CJ 20 91) (by simp) d).2 g hgf).2 (by intro e;injection e with e;have h1:=((hu.1.1.at_ (z:=CJ 20 91) (by simp) d).2 g hgf).1;have h2:=hok.2.1;omega))⟩⟩)
   show Aa w' (w.1.size + 1) 31 (#[O U x.key,agg1 (γ 2),γ 5,γ 9,γ 20,O U x.count])
   simp only [g2,g5,g9,g20]
   exact hc
 ·intro D uf hD hu
  have ho2:∃ A c,γ 2 = σ #[O U x.key,ψ A x.counts.length c] /\ IRow uf w.1.size (ψ A x.counts.length c) x.counts:=(hu.1.1.at_ (z:=Ei 2 w.1.size 2 1 x.counts.length (x.counts.map (Value.int U)) (fun s=>σ #[O U x.key,s])) (by simp) (hD 2 (by simp) rfl)).1
  simp only [g2] at ho2
  have ho5:Bl uf w.1.size (γ 5) x.trusts:=(hu.1.1.at_ (z:=AE 5 w.1.size 94 8 x.trusts.length (Af truV x.trusts)) (by simp) (hD 5 (by simp) rfl)).1
  simp only [g5] at ho5
  have ho9:Bv uf w.1.size (γ 9) x.cells:=(hu.1.1.at_ (z:=AE 9 w.1.size 118 2 x.cells.length (Af ceV x.cells)) (by simp) (hD 9 (by simp) rfl)).1
  simp only [g9] at ho9
  have ho14:∃ A c C d,γ 14 = σ #[O U x.s0.count,ψ A x.s0.trusts.length c,O U x.s0.mac,ψ C x.s0.cells.length d] /\ Bl uf w.1.size (ψ A x.s0.trusts.length c) x.s0.trusts /\ Bv uf w.1.size (ψ C x.s0.cells.length d) x.s0.cells /\ ∀ g ∈ Ae (ψ A x.s0.trusts.length c),g ∉ Ae (ψ C x.s0.cells.length d):=(hu.1.1.at_ (z:=Cv 14 w.1.size 94 8 x.s0.trusts.length (Af truV x.s0.trusts) 118 2 x.s0.cells.length (Af ceV x.s0.cells) (fun s t=>σ #[O U x.s0.count,s,O U x.s0.mac,t])) (by simp) (hD 14 (by simp) rfl)).1
  simp only [g14] at ho14
  have ho19:∃ A c C d,γ 19 = σ #[O U x.s1.count,ψ A x.s1.trusts.length c,O U x.s1.mac,ψ C x.s1.cells.length d] /\ Bl uf w.1.size (ψ A x.s1.trusts.length c) x.s1.trusts /\ Bv uf w.1.size (ψ C x.s1.cells.length d) x.s1.cells /\ ∀ g ∈ Ae (ψ A x.s1.trusts.length c),g ∉ Ae (ψ C x.s1.cells.length d):=(hu.1.1.at_ (z:=Cv 19 w.1.size 94 8 x.s1.trusts.length (Af truV x.s1.trusts) 118 2 x.s1.cells.length (Af ceV x.s1.cells) (fun s t=>σ #[O U x.s1.count,s,O U x.s1.mac,t])) (by simp) (hD 19 (by simp) rfl)).1
  simp only [g19] at ho19
  have ho20:∃ g cs,γ 20 = ψ (some ⟨g,0,none⟩) 2 2 /\ Aa uf g 91 cs:=(hu.1.1.at_ (z:=CJ 20 91) (by simp) (hD 20 (by simp) rfl)).1
  simp only [g20] at ho20
  obtain ⟨hres0,hf⟩:=hu.1.done (hD 24 (by simp) rfl)
  have hres:Aa uf (w.1.size + 1) 31 (#[O U x.key,agg1 (γ 2),γ 5,γ 9,γ 20,O U x.count]):=hres0
  simp only [g2,g5,g9,g20] at hres
  clear hres0
  have j2_5:=hu.1.1.2.2.2.2.2.2.1 (Ei 2 w.1.size 2 1 x.counts.length (x.counts.map (Value.int U)) (fun s=>σ #[O U x.key,s])) (by simp) (AE 5 w.1.size 94 8 x.trusts.length (Af truV x.trusts)) (by simp) (nq rfl) rfl (hD 2 (by simp) rfl) (hD 5 (by simp) rfl)
  change ∀ g ∈ Ae (agg1 (γ 2)),g ∉ Ae (γ 5) at j2_5
  simp only [g2,g5,agg1] at j2_5
  have j2_9:=hu.1.1.2.2.2.2.2.2.1 (Ei 2 w.1.size 2 1 x.counts.length (x.counts.map (Value.int U)) (fun s=>σ #[O U x.key,s])) (by simp) (AE 9 w.1.size 118 2 x.cells.length (Af ceV x.cells)) (by simp) (nq rfl) rfl (hD 2 (by simp) rfl) (hD 9 (by simp) rfl)
  change ∀ g ∈ Ae (agg1 (γ 2)),g ∉ Ae (γ 9) at j2_9
  simp only [g2,g9,agg1] at j2_9
  have j2_20:=hu.1.1.2.2.2.2.2.2.1 (Ei 2 w.1.size 2 1 x.counts.length (x.counts.map (Value.int U)) (fun s=>σ #[O U x.key,s])) (by simp) (CJ 20 91) (by simp) (nq rfl) rfl (hD 2 (by simp) rfl) (hD 20 (by simp) rfl)
  change ∀ g ∈ Ae (agg1 (γ 2)),g ∉ Ae (γ 20) at j2_20
  simp only [g2,g20,agg1] at j2_20
  have j2_14:=hu.1.1.2.2.2.2.2.2.1 (Ei 2 w.1.size 2 1 x.counts.length (x.counts.map (Value.int U)) (fun s=>σ #[O U x.key,s])) (by simp) (Cv 14 w.1.size 94 8 x.s0.trusts.length (Af truV x.s0.trusts) 118 2 x.s0.cells.length (Af ceV x.s0.cells) (fun s t=>σ #[O U x.s0.count,s,O U x.s0.mac,t])) (by simp) (nq rfl) rfl (hD 2 (by simp) rfl) (hD 14 (by simp) rfl)
  change ∀ g ∈ Ae (agg1 (γ 2)),g ∉ Ae (agg1 (γ 14)) ++ Ae (agg3 (γ 14)) at j2_14
  simp only [g2,g14,agg1,agg3] at j2_14
  have j2_19:=hu.1.1.2.2.2.2.2.2.1 (Ei 2 w.1.size 2 1 x.counts.length (x.counts.map (Value.int U)) (fun s=>σ #[O U x.key,s])) (by simp) (Cv 19 w.1.size 94 8 x.s1.trusts.length (Af truV x.s1.trusts) 118 2 x.s1.cells.length (Af ceV x.s1.cells) (fun s t=>σ #[O U x.s1.count,s,O U x.s1.mac,t])) (by simp) (nq rfl) rfl (hD 2 (by simp) rfl) (hD 19 (by simp) rfl)
  change ∀ g ∈ Ae (agg1 (γ 2)),g ∉ Ae (agg1 (γ 19)) ++ Ae (agg3 (γ 19)) at j2_19
  simp only [g2,g19,agg1,agg3] at j2_19
  have j5_9:=hu.1.1.2.2.2.2.2.2.1 (AE 5 w.1.size 94 8 x.trusts.length (Af truV x.trusts)) (by simp) (AE 9 w.1.size 118 2 x.cells.length (Af ceV x.cells)) (by simp) (nq rfl) rfl (hD 5 (by simp) rfl) (hD 9 (by simp) rfl)
  change ∀ g ∈ Ae (γ 5),g ∉ Ae (γ 9) at j5_9
  simp only [g5,g9] at j5_9
  have j5_20:=hu.1.1.2.2.2.2.2.2.1 (AE 5 w.1.size 94 8 x.trusts.length (Af truV x.trusts)) (by simp) (CJ 20 91) (by simp) (nq rfl) rfl (hD 5 (by simp) rfl) (hD 20 (by simp) rfl)
  change ∀ g ∈ Ae (γ 5),g ∉ Ae (γ 20) at j5_20
  simp only [g5,g20] at j5_20
  have j5_14:=hu.1.1.2.2.2.2.2.2.1 (AE 5 w.1.size 94 8 x.trusts.length (Af truV x.trusts)) (by simp) (Cv 14 w.1.size 94 8 x.s0.trusts.length (Af truV x.s0.trusts) 118 2 x.s0.cells.length (Af ceV x.s0.cells) (fun s t=>σ #[O U x.s0.count,s,O U x.s0.mac,t])) (by simp) (nq rfl) rfl (hD 5 (by simp) rfl) (hD 14 (by simp) rfl)
  change ∀ g ∈ Ae (γ 5),g ∉ Ae (agg1 (γ 14)) ++ Ae (agg3 (γ 14)) at j5_14
  simp only [g5,g14,agg1,agg3] at j5_14
  have j5_19:=hu.1.1.2.2.2.2.2.2.1 (AE 5 w.1.size 94 8 x.trusts.length (Af truV x.trusts)) (by simp) (Cv 19 w.1.size 94 8 x.s1.trusts.length (Af truV x.s1.trusts) 118 2 x.s1.cells.length (Af ceV x.s1.cells) (fun s t=>σ #[O U x.s1.count,s,O U x.s1.mac,t])) (by simp) (nq rfl) rfl (hD 5 (by simp) rfl) (hD 19 (by simp) rfl)
  change ∀ g ∈ Ae (γ 5),g ∉ Ae (agg1 (γ 19)) ++ Ae (agg3 (γ 19)) at j5_19
  simp only [g5,g19,agg1,agg3] at j5_19
  have j9_20:=hu.1.1.2.2.2.2.2.2.1 (AE 9 w.1.size 118 2 x.cells.length (Af ceV x.cells)) (by simp) (CJ 20 91) (by simp) (nq rfl) rfl (hD 9 (by simp) rfl) (hD 20 (by simp) rfl)
  change ∀ g ∈ Ae (γ 9),g ∉ Ae (γ 20) at j9_20
  simp only [g9,g20] at j9_20
  have j9_14:=hu.1.1.2.2.2.2.2.2.1 (AE 9 w.1.size 118 2 x.cells.length (Af ceV x.cells)) (by simp) (Cv 14 w.1.size 94 8 x.s0.trusts.length (Af truV x.s0.trusts) 118 2 x.s0.cells.length (Af ceV x.s0.cells) (fun s t=>σ #[O U x.s0.count,s,O U x.s0.mac,t])) (by simp) (nq rfl) rfl (hD 9 (by simp) rfl) (hD 14 (by simp) rfl)
  change ∀ g ∈ Ae (γ 9),g ∉ Ae (agg1 (γ 14)) ++ Ae (agg3 (γ 14)) at j9_14
  simp only [g9,g14,agg1,agg3] at j9_14
  have j9_19:=hu.1.1.2.2.2.2.2.2.1 (AE 9 w.1.size 118 2 x.cells.length (Af ceV x.cells)) (by simp) (Cv 19 w.1.size 94 8 x.s1.trusts.length (Af truV x.s1.trusts) 118 2 x.s1.cells.length (Af ceV x.s1.cells) (fun s t=>σ #[O U x.s1.count,s,O U x.s1.mac,t])) (by simp) (nq rfl) rfl (hD 9 (by simp) rfl) (hD 19 (by simp) rfl)
  change ∀ g ∈ Ae (γ 9),g ∉ Ae (agg1 (γ 19)) ++ Ae (agg3 (γ 19)) at j9_19
  simp only [g9,g19,agg1,agg3] at j9_19
  have j20_14:=hu.1.1.2.2.2.2.2.2.1 (CJ 20 91) (by simp) (Cv 14 w.1.size 94 8 x.s0.trusts.length (Af truV x.s0.trusts) 118 2 x.s0.cells.length (Af ceV x.s0.cells) (fun s t=>σ #[O U x.s0.count,s,O U x.s0.mac,t])) (by simp) (nq rfl) rfl (hD 20 (by simp) rfl) (hD 14 (by simp) rfl)
  change ∀ g ∈ Ae (γ 20),g ∉ Ae (agg1 (γ 14)) ++ Ae (agg3 (γ 14)) at j20_14
  simp only [g20,g14,agg1,agg3] at j20_14
  have j20_19:=hu.1.1.2.2.2.2.2.2.1 (CJ 20 91) (by simp) (Cv 19 w.1.size 94 8 x.s1.trusts.length (Af truV x.s1.trusts) 118 2 x.s1.cells.length (Af ceV x.s1.cells) (fun s t=>σ #[O U x.s1.count,s,O U x.s1.mac,t])) (by simp) (nq rfl) rfl (hD 20 (by simp) rfl) (hD 19 (by simp) rfl)
  change ∀ g ∈ Ae (γ 20),g ∉ Ae (agg1 (γ 19)) ++ Ae (agg3 (γ 19)) at j20_19
  simp only [g20,g19,agg1,agg3] at j20_19
  have j14_19:=hu.1.1.2.2.2.2.2.2.1 (Cv 14 w.1.size 94 8 x.s0.trusts.length (Af truV x.s0.trusts) 118 2 x.s0.cells.length (Af ceV x.s0.cells) (fun s t=>σ #[O U x.s0.count,s,O U x.s0.mac,t])) (by simp) (Cv 19 w.1.size 94 8 x.s1.trusts.length (Af truV x.s1.trusts) 118 2 x.s1.cells.length (Af ceV x.s1.cells) (fun s t=>σ #[O U x.s1.count,s,O U x.s1.mac,t])) (by simp) (nq rfl) rfl (hD 14 (by simp) rfl) (hD 19 (by simp) rfl)
  change ∀ g ∈ Ae (agg1 (γ 14)) ++ Ae (agg3 (γ 14)),g ∉ Ae (agg1 (γ 19)) ++ Ae (agg3 (γ 19)) at j14_19
  simp only [g14,g19,agg1,agg3] at j14_19
  obtain ⟨A8,c8,e8,r2⟩:=ho2
  simp only [Value.agg.injEq,Array.mk.injEq,List.cons.injEq,Value.slice.injEq,true_and,and_true] at e8
  obtain ⟨rfl,rfl⟩:=e8
  obtain ⟨A8,c8,C8,d8,e8,r14,q14,t14⟩:=ho14
  simp only [Value.agg.injEq,Array.mk.injEq,List.cons.injEq,Value.slice.injEq,true_and,and_true] at e8
  obtain ⟨⟨rfl,rfl⟩,rfl,rfl⟩:=e8
  obtain ⟨A8,c8,C8,d8,e8,r19,q19,t19⟩:=ho19
  simp only [Value.agg.injEq,Array.mk.injEq,List.cons.injEq,Value.slice.injEq,true_and,and_true] at e8
  obtain ⟨⟨rfl,rfl⟩,rfl,rfl⟩:=e8
  obtain ⟨-,-,g8,e8,hcs⟩:=hu.2 (hD 20 (by simp) rfl)
  rw [g20] at e8
  obtain rfl:ga = g8:=by simpa using e8
  simp only [g14,g19,agg1,agg3] at hcs
  have hga:w.1.size <= ga:=Nat.le_trans hu.1.1.2.1 ((hu.1.1.at_ (z:=CJ 20 91) (by simp) (hD 20 (by simp) rfl)).2 ga (by show ga ∈ Ae (γ 20);rw [g20];simp [Ae])).1
  have d0:=hres.cell 0
  have d1:=hres.cell 1
  have d2:=hres.cell 2
  have d3:=hres.cell 3
  have d4:=hres.cell 4
  have d5:=hres.cell 5
  go_wp2_with fail
  exact bodyPost_ret (v:=σ #[O U x.key,ψ A2 x.counts.length c2,ψ A4 x.trusts.length c4,ψ A9 x.cells.length c9,ψ (some ⟨ga,0,none⟩) 2 2,O U x.count]) (by simp [results,results99,go_sem,d0,d1,d2,d3,d4,d5,agg1]) rfl ⟨_,rfl,⟨A2,c2,A4,c4,A9,c9,ga,A0,c0,C0,d0',A1,c1,C1,d1',rfl,r2,ho5,ho9,hga,hcs,r14,q14,r19,q19,(List.Pairwise.cons (by intro q hq;simp only [List.mem_cons,List.not_mem_nil,or_false] at hq;rcases hq with rfl | rfl | rfl | rfl | rfl | rfl | rfl;exact fun y hy h=>j2_5 y hy h;exact fun y hy h=>j2_9 y hy h;exact fun y hy h=>j2_20 y hy h;exact fun y hy h=>j2_14 y hy (List.mem_append_left _ h);exact fun y hy h=>j2_14 y hy (List.mem_append_right _ h);exact fun y hy h=>j2_19 y hy (List.mem_append_left _ h);exact fun y hy h=>j2_19 y hy (List.mem_append_right _ h)) (List.Pairwise.cons (by intro q hq;simp only [List.mem_cons,List.not_mem_nil,or_false] at hq;rcases hq with rfl | rfl | rfl | rfl | rfl | rfl;exact fun y hy h=>j5_9 y hy h;exact fun y hy h=>j5_20 y hy h;exact fun y hy h=>j5_14 y hy (List.mem_append_left _ h);exact fun y hy h=>j5_14 y hy (List.mem_append_right _ h);exact fun y hy h=>j5_19 y hy (List.mem_append_left _ h);exact fun y hy h=>j5_19 y hy (List.mem_append_right _ h)) (List.Pairwise.cons (by intro q hq;simp only [List.mem_cons,List.not_mem_nil,or_false] at hq;rcases hq with rfl | rfl | rfl | rfl | rfl;exact fun y hy h=>j9_20 y hy h;exact fun y hy h=>j9_14 y hy (List.mem_append_left _ h);exact fun y hy h=>j9_14 y hy (List.mem_append_right _ h);exact fun y hy h=>j9_19 y hy (List.mem_append_left _ h);exact fun y hy h=>j9_19 y hy (List.mem_append_right _ h)) (List.Pairwise.cons (by intro q hq;simp only [List.mem_cons,List.not_mem_nil,or_false] at hq;rcases hq with rfl | rfl | rfl | rfl;exact fun y hy h=>j20_14 y hy (List.mem_append_left _ h);exact fun y hy h=>j20_14 y hy (List.mem_append_right _ h);exact fun y hy h=>j20_19 y hy (List.mem_append_left _ h);exact fun y hy h=>j20_19 y hy (List.mem_append_right _ h)) (List.Pairwise.cons (by intro q hq;simp only [List.mem_cons,List.not_mem_nil,or_false] at hq;rcases hq with rfl | rfl | rfl;exact t14;exact fun y hy h=>j14_19 y (List.mem_append_left _ hy) (List.mem_append_left _ h);exact fun y hy h=>j14_19 y (List.mem_append_left _ hy) (List.mem_append_right _ h)) (List.Pairwise.cons (by intro q hq;simp only [List.mem_cons,List.not_mem_nil,or_false] at hq;rcases hq with rfl | rfl;exact fun y hy h=>j14_19 y (List.mem_append_right _ hy) (List.mem_append_left _ h);exact fun y hy h=>j14_19 y (List.mem_append_right _ hy) (List.mem_append_right _ h)) (List.Pairwise.cons (by intro q hq;simp only [List.mem_cons,List.not_mem_nil,or_false] at hq;subst hq;exact t19) (List.Pairwise.cons (by intro q hq;cases hq) List.Pairwise.nil))))))))⟩,hf.1⟩

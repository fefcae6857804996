import Derived.Test.YteoijmejhdocdaaGreatDoorV09
namespace Go.Proofs.YteoijmejhdocdaaGreatDoor.Mx
open Go.ChangeShapes Go.WideShapes Go.ChangeAt Go.RowKit
set_option linter.unusedVariables false
open Go.Lib (hid)
open Go.Proofs.Tryz
set_option maxRecDepth 20000
set_option maxHeartbeats 64000000
open Value renaming int → O, slice → ψ, bool → φ, agg → σ
open IntKind renaming i64 → U
open Ending renaming returned → τ
def Ae (v:Value):List Nat:=match v with | .slice (some a) _ _=>[a.block] | _=>[]
def agg1 (v:Value):Value:=match v with | .agg cs=>cs.getD 1 undef | _=>undef
def agg3 (v:Value):Value:=match v with | .agg cs=>cs.getD 3 undef | _=>undef
theorem Cm {u u':World} {base t size n:Nat} {v:Value} {xs:List Value} (h:u.ownsRow base t size v n xs) (hf:∀ g ∈ Ae v,u'.1[g]? = u.1[g]?):u'.ownsRow base t size v n xs:=by
 refine ⟨h.1,?_⟩
 rcases h.2 with h0 | ⟨g,cap,cur,e,hb,hg,r⟩
 ·exact .inl h0
 ·subst e
  exact .inr ⟨g,cap,cur,rfl,hb,by rw [hf g (by simp [Ae])];exact hg,r⟩
theorem Ef {u w':World} {t size n:Nat} {v:Value} {xs:List Value} (h:w'.ownsRow u.1.size t size v n xs):∀ g ∈ Ae v,u.1.size <= g /\ g < w'.1.size:=by
 intro g hg
 unfold Ae at hg
 split at hg
 ·rename_i a _ _
  simp only [List.mem_singleton] at hg
  subst hg
  exact World.ownsRow.lt h a.block rfl
 ·cases hg
def Ei (k base t size n:Nat) (xs:List Value) (mk:Value -> Value):Own:=
 ⟨k,k,fun v=>Ae (agg1 v),fun _ v u=>∃ A c,v = mk (ψ A n c) /\ u.ownsRow base t size (ψ A n c) n xs⟩
theorem Ei.stable (k base t size n:Nat) (xs:List Value) (mk:Value -> Value) (hm:∀ s,agg1 (mk s) = s):(Ei k base t size n xs mk).Stable:=by
 intro d v u u' ⟨A,c,e,h⟩ hf
 subst e
 exact ⟨A,c,rfl,Cm h (fun g hg=>hf g (by simp only [Ei];rw [hm];exact hg))⟩
noncomputable def Dq (key:Int) (l:List Int) (cnt:Int) (L:List Tru):Int × List Tru × Int:=
 open Classical in if Ba key l L /\ (0 <= cnt /\ cnt <= 10000) then (cnt,L,Fa key l cnt L) else (0,[],0)
theorem Gf (key:Int) (A:Option Addr) (l:List Int) (cap:Nat) (cnt:Int) (B:Option Addr) (L:List Tru) (tc:Nat) (w:World) (hn:l.length <= maxLen) (hA:Ints w U w.1.size A l) (hN:L.length <= 1048576) (hB:Trs w w.1.size B L) (hI:Cx L) (hc0:I64 cnt):
    Calls prog 74 #[σ #[O U key,ψ A l.length cap],O U cnt,ψ B L.length tc] w (OD w (Dq key l cnt L).1 (Dq key l cnt L).2.1 (Dq key l cnt L).2.2):=by
 have K0:=hid (show Kept w [(w.1.size + 1,89,#[O U 0,ψ none 0 0,O U 0]),(w.1.size,26,#[O U key,ψ A l.length cap])] _ from (((Kept.refl w).put1 _ _ #[O U key,ψ A l.length cap] rfl).put1 _ _ #[O U 0,ψ none 0 0,O U 0] (by simp)))
 have TS:=hid (fun (u:World) (hb:Below w.1.size w u)=>Fg key A B l cap L tc u hn ((hA.below hb (lr _)).more hb.size) (by unfold maxLen;omega) ((hB.below hb (lr _)).more hb.size))
 have MC:=hid (fun (u:World) (hb:Below w.1.size w u)=>Hu key cnt A B l cap L tc u hn ((hA.below hb (lr _)).more hb.size) hN ((hB.below hb (lr _)).more hb.size) hI hc0)
 have IN:=hid (fun (u:World)=>KH cnt 0 10000 _ u rfl)
 have CO:=hid (fun (u:World) (hb:Below w.1.size w u)=>Em B L tc u hN ((hB.below hb (lr _)).more hb.size))
 clear hA hB hI hc0 hn
 unfold Dq
 by_cases ht:Ba key l L
 ·rw [DQ ht] at TS
  by_cases hr:0 <= cnt /\ cnt <= 10000
  ·rw [decide_eq_true hr] at IN
   rw [if_pos ⟨ht,hr⟩]
   simp only []
   generalize Fa key l cnt L = mo at MC |-
   clear ht hr
   go_enter func74,ntmps74
   go_wp2_with fail
   refine (TS.out _ K0.out.1).mono ?_;rintro e uz1 ⟨rfl,bz2⟩
   have hz3:=K0.out.below bz2
   clear bz2
   obtain ⟨X0,Y0,X1,Y1,-⟩:=hz3.rd
   go_wp2_with fail
   refine (IN.out _).mono ?_;rintro e w' ⟨rfl,rfl⟩
   go_upto_region 3 with fail
   have lm0:w.1.size < uz1.1.size:=hz3.lt (x:=(w.1.size,26,#[O U key,ψ A l.length cap])) (by simp)
   have lm1:w.1.size + 1 < uz1.1.size:=hz3.lt (x:=(w.1.size + 1,89,#[O U 0,ψ none 0 0,O U 0])) (by simp)
   have hn0:Kept w [(w.1.size,26,#[O U key,ψ A l.length cap])] _:=hz3.sub (by intro y hy;simp at hy |-;subst hy;simp)
   have hcz:=hz3.at_ (p:=w.1.size + 1) (t:=89) (cs:=#[O U 0,ψ none 0 0,O U 0]) (by simp)
   have hok:OutB.Ok (⟨w.1.size + 1,89,3,8,[2],fun γ=>#[O U cnt,γ 2,O U mo]⟩:OutB) w (uz1.1.size) [(w.1.size,26,#[O U key,ψ A l.length cap])]:=⟨by simp only [] <;> omega,by simp only [] <;> omega,by intro y hy;simp only [List.mem_cons,List.not_mem_nil,or_false] at hy;subst hy <;> (simp only [];omega),fun γ γ' ha=>by simp only [];rw [ha 2 (by simp)],fun γ=>rfl,by simp⟩
   have hstab:∀ zz ∈ ([AE 2 w.1.size 94 8 L.length (Af truV L)]:List Own),zz.Stable:=by
    intro y hy
    simp only [List.mem_cons,List.not_mem_nil,or_false] at hy
    subst hy;exact AE.stable _ _ _ _ _ _
   have hstart:∀ γ,OwnR w (uz1.1.size) [(w.1.size,26,#[O U key,ψ A l.length cap])] [AE 2 w.1.size 94 8 L.length (Af truV L)] (fun _ _=>false) (⟨w.1.size + 1,89,3,8,[2],fun γ=>#[O U cnt,γ 2,O U mo]⟩:OutB) (fun _=>false) γ _:=fun γ=>OwnR.start hn0 hn0.1.size (lr _) (by intro y hy;simp only [List.mem_cons,List.not_mem_nil,or_false] at hy;subst hy <;> (simp only [];omega)) hcz rfl
   refine Ao [false,false,true,false,false,false,true,false,true] (ShL [(2,fun v=>∃ (A:Option Addr) (c:Nat),v = ψ A L.length c),(6,fun v=>v = O U mo)]) (fun D γ u=>OwnR w (uz1.1.size) [(w.1.size,26,#[O U key,ψ A l.length cap])] [AE 2 w.1.size 94 8 L.length (Af truV L)] (fun _ _=>false) (⟨w.1.size + 1,89,3,8,[2],fun γ=>#[O U cnt,γ 2,O U mo]⟩:OutB) D γ u) (by kernel_rfl) (by kernel_rfl) (fun γ=>by kernel_rfl) (fun D γ γ' w ha h=>h.loc hok ha) (ShL.inh _ ?inh) (fun γ=>hstart γ) (fun γ hγ=>?_)
   case inh=>
    intro y hy
    simp only [List.mem_cons,List.not_mem_nil,or_false] at hy
    rcases hy with rfl | rfl
    ·exact ⟨_,none,0,rfl⟩
    ·exact ⟨_,rfl⟩
   clear hstart hn0 hcz
   obtain ⟨A4,c4,g2⟩:∃ (A:Option Addr) (c:Nat),γ 2 = ψ A L.length c:=hγ 2 rfl
   have g6:γ 6 = O U mo:=hγ 6 rfl
   have g8:γ 8 = undef:=hγ 8 rfl
   clear hz3 X0 Y0 X1 Y1
   apply Exists.intro
   refine ⟨fun D=>?_,?_,?_⟩
   ·simp only [AP,cond_true,cond_false,Nat.reduceAdd,g2,g6,g8]
    iterate 9 (first
     | go_big_quiet_skip
     | (go_big_quiet_want
        go_big_quiet_op
        first
         | go_big_quiet_on
         | (apply Exists.intro
            refine ⟨fun u hu=>?_,?_⟩
            ·first
               | with_reducible rfl
               | (obtain ⟨X0,Y0,-⟩:=hu.1.1.1.rd;go_simp;first | done | with_reducible rfl)
            go_big_quiet_on)))
    exact wpQuiet_nil rfl
   ·simp only [AY,Nat.reduceAdd]
    refine ⟨fun D u hD hd hu=>?_,fun D u hD hd hu=>?_,fun D u hD hd hu=>?_,trivial⟩
    ·refine As ((CO.out u hu.1.1.1.1).mono ?_) rfl rfl rfl rfl (by kernel_rfl)
     rintro e w' ⟨v5,rfl,hrow,hb⟩
     obtain ⟨A5,c5,rfl,_,_⟩:=hrow.reads AD
     refine ⟨_,rfl,⟨A5,c5,rfl⟩,?_⟩
     exact hu.made hok hstab (z:=AE 2 w.1.size 94 8 L.length (Af truV L)) (by simp) (by intro y hy;simp only [List.mem_cons,List.not_mem_nil,or_false] at hy;subst hy;exact .inl rfl) hD (nq rfl) hb (AV hrow hu.1.1.1.1.size) (fun g hg=>Ef hrow g hg)
    ·exact As ((MC.out u hu.1.1.1.1).mono fun e w' ⟨he,hb⟩=>⟨_,he,rfl,hu.below hok hstab hb hD _ (nq rfl) (by intro y hy;simp only [List.mem_cons,List.not_mem_nil,or_false] at hy;subst hy;exact ⟨nq rfl,nq rfl⟩)⟩) rfl rfl rfl rfl (by kernel_rfl)
    ·obtain ⟨z,hz,hzs⟩:=hu.box
     refine AI hz rfl rfl (show _ = Value.agg #[O U cnt,ψ A4 L.length c4,O U mo] from rfl) (by kernel_rfl) hzs (by simp [Value.oneCell']) (fun w' hc hg=>⟨rfl,hu.stored hok hstab (by intro y hy;simp only [List.mem_cons,List.not_mem_nil,or_false] at hy;subst hy;exact ⟨nq rfl,nq rfl⟩) (by intro y hy;simp only [List.mem_cons,List.not_mem_nil,or_false] at hy;subst hy;exact hd { on:=2,ground:=Ground.phase } (by simp) rfl rfl) hg ?_ _⟩)
     show Aa w' (w.1.size + 1) 89 (#[O U cnt,γ 2,O U mo])
     simp only [g2]
     exact hc
   ·intro D uf hD hu
    have ho2:Bl uf w.1.size (γ 2) L:=(hu.1.at_ (z:=AE 2 w.1.size 94 8 L.length (Af truV L)) (by simp) (hD 2 (by simp) rfl)).1
    simp only [g2] at ho2
    obtain ⟨hres0,hf⟩:=hu.done (hD 8 (by simp) rfl)
    have hres:Aa uf (w.1.size + 1) 89 (#[O U cnt,γ 2,O U mo]):=hres0
    simp only [g2] at hres
    clear hres0
    have d0:=hres.cell 0
    have d1:=hres.cell 1
    have d2:=hres.cell 2
    go_wp2_with fail
    exact bodyPost_ret (v:=σ #[O U cnt,ψ A4 L.length c4,O U mo]) (by simp [results,results74,go_sem,d0,d1,d2]) rfl ⟨A4,c4,rfl,ho2,hf.1⟩
  ·rw [decide_eq_false hr] at IN
   rw [if_neg (fun h=>hr h.2)]
   clear ht hr MC CO
   go_enter func74,ntmps74
   go_wp2_with fail
   refine (TS.out _ K0.out.1).mono ?_;rintro e uz1 ⟨rfl,bz2⟩
   have hz3:=K0.out.below bz2
   clear bz2
   obtain ⟨X0,Y0,X1,Y1,-⟩:=hz3.rd
   go_wp2_with fail
   refine (IN.out _).mono ?_;rintro e w' ⟨rfl,rfl⟩
   go_wp2_with fail
   obtain ⟨w9,e9,⟨d0,d1,d2⟩,hb9,_⟩:=Jc (w:=w) (x:=O U 0) (y:=ψ none 0 0) (z:=O U 0) (hz3.at_ (p:=w.1.size + 1) (t:=89) (cs:=#[O U 0,ψ none 0 0,O U 0]) (by simp)) hz3.1 (by omega)
   rw [e9]
   exact bodyPost_ret (v:=σ #[O U 0,ψ none 0 0,O U 0]) (by simp [results,results74,go_sem,d0,d1,d2]) rfl ⟨none,0,rfl,World.ownsRow_nil w9 _ _ _,hb9⟩
 ·rw [CX ht] at TS
  rw [if_neg (fun h=>ht h.1)]
  clear ht MC CO IN
  go_enter func74,ntmps74
  go_wp2_with fail
  refine (TS.out _ K0.out.1).mono ?_;rintro e uz1 ⟨rfl,bz2⟩
  have hz3:=K0.out.below bz2
  clear bz2
  obtain ⟨X0,Y0,X1,Y1,-⟩:=hz3.rd
  go_wp2_with fail
  obtain ⟨w9,e9,⟨d0,d1,d2⟩,hb9,_⟩:=Jc (w:=w) (x:=O U 0) (y:=ψ none 0 0) (z:=O U 0) (hz3.at_ (p:=w.1.size + 1) (t:=89) (cs:=#[O U 0,ψ none 0 0,O U 0]) (by simp)) hz3.1 (by omega)
  rw [e9]
  exact bodyPost_ret (v:=σ #[O U 0,ψ none 0 0,O U 0]) (by simp [results,results74,go_sem,d0,d1,d2]) rfl ⟨none,0,rfl,World.ownsRow_nil w9 _ _ _,hb9⟩
def SN (b:World) (cnt:Int) (L:List Tru) (mac:Int) (M:List Ce) (e:Ending) (w':World):Prop:=
 ∃ A c C d,e = τ (σ #[O U cnt,ψ A L.length c,O U mac,ψ C M.length d]) /\ Bl w' b.1.size (ψ A L.length c) L /\ Bv w' b.1.size (ψ C M.length d) M /\ (∀ g ∈ Ae (ψ A L.length c),g ∉ Ae (ψ C M.length d)) /\ Below b.1.size b w'
theorem Hw (cnt:Int) (B:Option Addr) (L:List Tru) (tc:Nat) (mac:Int) (C:Option Addr) (M:List Ce) (cc:Nat) (w:World) (hN:L.length <= 1048576) (hB:Trs w w.1.size B L) (hM:M.length <= 1048576) (hC:Cls w w.1.size C M):
    Calls prog 169 #[σ #[O U cnt,ψ B L.length tc,O U mac,ψ C M.length cc]] w (SN w cnt L mac M):=by
 have K0:=hid (show Kept w [(w.1.size + 1,91,#[O U 0,ψ none 0 0,O U 0,ψ none 0 0]),(w.1.size,91,#[O U cnt,ψ B L.length tc,O U mac,ψ C M.length cc])] _ from (((Kept.refl w).put1 _ _ #[O U cnt,ψ B L.length tc,O U mac,ψ C M.length cc] rfl).put1 _ _ #[O U 0,ψ none 0 0,O U 0,ψ none 0 0] (by simp)))
 have SC:=hid (fun (u:World) (hb:Below w.1.size w u)=>LP cnt B L tc mac u hN ((hB.below hb (lr _)).more hb.size))
 have NW:=hid (fun (u:World) (hb:Below w.1.size w u)=>Sls.news Au (by omega) (hC.below hb (lr _)))
 clear hB hC
 go_enter func169,ntmps169
 go_upto_region 1 with fail
 have hk:=K0.out
 generalize (w.alloc _).alloc _ = w0 at hk |-
 have lm0:w.1.size < w0.1.size:=hk.lt (x:=(w.1.size,91,#[O U cnt,ψ B L.length tc,O U mac,ψ C M.length cc])) (by simp)
 have lm1:w.1.size + 1 < w0.1.size:=hk.lt (x:=(w.1.size + 1,91,#[O U 0,ψ none 0 0,O U 0,ψ none 0 0])) (by simp)
 have hn0:Kept w [(w.1.size,91,#[O U cnt,ψ B L.length tc,O U mac,ψ C M.length cc])] _:=hk.sub (by intro y hy;simp at hy |-;subst hy;simp)
 have hcz:=hk.at_ (p:=w.1.size + 1) (t:=91) (cs:=#[O U 0,ψ none 0 0,O U 0,ψ none 0 0]) (by simp)
 have hok:OutB.Ok (⟨w.1.size + 1,91,4,8,[2,6],fun γ=>#[O U cnt,agg1 (γ 2),O U mac,γ 6]⟩:OutB) w (w0.1.size) [(w.1.size,91,#[O U cnt,ψ B L.length tc,O U mac,ψ C M.length cc])]:=⟨by simp only [] <;> omega,by simp only [] <;> omega,by intro y hy;simp only [List.mem_cons,List.not_mem_nil,or_false] at hy;subst hy <;> (simp only [];omega),fun γ γ' ha=>by simp only [];rw [ha 2 (by simp),ha 6 (by simp)],fun γ=>rfl,by simp⟩
 have hstab:∀ zz ∈ ([Ei 2 w.1.size 94 8 L.length (Af truV L) (fun s=>σ #[O U cnt,s,O U mac]),Dn 3 6 w.1.size 118 2,AE 6 w.1.size 118 2 M.length (Af ceV M)]:List Own),zz.Stable:=by
  intro y hy
  simp only [List.mem_cons,List.not_mem_nil,or_false] at hy
  rcases hy with rfl | rfl | rfl
  ·exact Ei.stable _ _ _ _ _ _ _ (fun s=>rfl)
  ·exact Dn.stable _ _ _ _ _
  ·exact AE.stable _ _ _ _ _ _
 have hstart:∀ γ,OwnR w (w0.1.size) [(w.1.size,91,#[O U cnt,ψ B L.length tc,O U mac,ψ C M.length cc])] [Ei 2 w.1.size 94 8 L.length (Af truV L) (fun s=>σ #[O U cnt,s,O U mac]),Dn 3 6 w.1.size 118 2,AE 6 w.1.size 118 2 M.length (Af ceV M)] (fun i j=>(i == 3 && j == 6) || (i == 6 && j == 3)) (⟨w.1.size + 1,91,4,8,[2,6],fun γ=>#[O U cnt,agg1 (γ 2),O U mac,γ 6]⟩:OutB) (fun _=>false) γ _:=fun γ=>OwnR.start hn0 hn0.1.size (lr _) (by intro y hy;simp only [List.mem_cons,List.not_mem_nil,or_false] at hy;subst hy <;> (simp only [];omega)) hcz rfl
 refine Ao [false,false,true,true,false,false,true,false,true] (ShL [(2,fun v=>∃ (A:Option Addr) (c:Nat),v = σ #[O U cnt,ψ A L.length c,O U mac]),(3,fun v=>∃ g:Nat,v = ψ (some ⟨g,0,none⟩) 0 0),(6,fun v=>∃ (A:Option Addr) (c:Nat),v = ψ A M.length c)]) (fun D γ u=>OwnR w (w0.1.size) [(w.1.size,91,#[O U cnt,ψ B L.length tc,O U mac,ψ C M.length cc])] [Ei 2 w.1.size 94 8 L.length (Af truV L) (fun s=>σ #[O U cnt,s,O U mac]),Dn 3 6 w.1.size 118 2,AE 6 w.1.size 118 2 M.length (Af ceV M)] (fun i j=>(i == 3 && j == 6) || (i == 6 && j == 3)) (⟨w.1.size + 1,91,4,8,[2,6],fun γ=>#[O U cnt,agg1 (γ 2),O U mac,γ 6]⟩:OutB) D γ u) (by kernel_rfl) (by kernel_rfl) (fun γ=>by kernel_rfl) (fun D γ γ' w ha h=>h.loc hok ha) (ShL.inh _ ?inh) (fun γ=>hstart γ) (fun γ hγ=>?_)
 case inh=>
  intro y hy
  simp only [List.mem_cons,List.not_mem_nil,or_false] at hy
  rcases hy with rfl | rfl | rfl
  ·exact ⟨_,none,0,rfl⟩
  ·exact ⟨_,0,rfl⟩
  ·exact ⟨_,none,0,rfl⟩
 clear hstart hn0 hcz
 obtain ⟨A4,c4,g2⟩:∃ (A:Option Addr) (c:Nat),γ 2 = σ #[O U cnt,ψ A L.length c,O U mac]:=hγ 2 rfl
 obtain ⟨gn,g3⟩:∃ g:Nat,γ 3 = ψ (some ⟨g,0,none⟩) 0 0:=hγ 3 rfl
 obtain ⟨A7,c7,g6⟩:∃ (A:Option Addr) (c:Nat),γ 6 = ψ A M.length c:=hγ 6 rfl
 have g8:γ 8 = undef:=hγ 8 rfl
 clear hk
 apply Exists.intro
 refine ⟨fun D=>?_,?_,?_⟩
 ·simp only [AP,cond_true,cond_false,Nat.reduceAdd,g2,g3,g6,g8]
  iterate 9 (first
   | go_big_quiet_skip
   | (go_big_quiet_want
      go_big_quiet_op
      first
       | go_big_quiet_on
       | (apply Exists.intro
          refine ⟨fun u hu=>?_,?_⟩
          ·first
             | with_reducible rfl
             | (obtain ⟨X0,Y0,-⟩:=hu.1.1.1.rd;go_simp;first | done | with_reducible rfl)
          go_big_quiet_on)))
  exact wpQuiet_nil rfl
 ·simp only [AY,Nat.reduceAdd]
  refine ⟨fun D u hD hd hu=>?_,fun D u hD hd hu=>?_,fun D u hD hd hu=>?_,fun D u hD hd hu=>?_,trivial⟩
  ·refine As ((SC.out u hu.1.1.1.1).mono ?_) rfl rfl rfl rfl (by kernel_rfl)
   rintro e w' ⟨A5,c5,rfl,hrow,hb⟩
   refine ⟨_,rfl,⟨A5,c5,rfl⟩,?_⟩
   exact hu.made hok hstab (z:=Ei 2 w.1.size 94 8 L.length (Af truV L) (fun s=>σ #[O U cnt,s,O U mac])) (by simp) (by intro y hy;simp only [List.mem_cons,List.not_mem_nil,or_false] at hy;rcases hy with rfl | rfl | rfl;exact .inl rfl;exact .inr ⟨(nq rfl),(nq rfl)⟩;exact .inr ⟨(nq rfl),(nq rfl)⟩) hD (nq rfl) hb ⟨A5,c5,rfl,AV hrow hu.1.1.1.1.size⟩ (fun g hg=>Ef hrow g hg)
  ·refine BQ 28 118 rfl underlying28 (by kernel_rfl) ?_
   refine ⟨⟨_,rfl⟩,?_⟩
   have ha:Below u.1.size u (u.alloc (.cells #[] 118)):=(Below.refl _ _).alloc (lr _) _
   exact hu.made hok hstab (z:=Dn 3 6 w.1.size 118 2) (by simp) (by intro y hy;simp only [List.mem_cons,List.not_mem_nil,or_false] at hy;rcases hy with rfl | rfl | rfl;exact .inr ⟨(nq rfl),(nq rfl)⟩;exact .inl rfl;exact .inr ⟨(nq rfl),(nq rfl)⟩) hD (nq rfl) ha (fun _=>⟨_,rfl,World.ownsRow_made u #[] 0 hu.1.1.1.1.size (by simp [maxLen]) (by simp)⟩) (by intro g hg;simp only [Dn,List.mem_singleton] at hg;subst hg;exact ⟨lr _,by simp⟩)
  ·have d3:=hd { on:=3,ground:=Ground.data } (by simp) rfl rfl
   obtain ⟨h3,-⟩:=hu.1.at_ (z:=Dn 3 6 w.1.size 118 2) (by simp) d3
   obtain ⟨g0,e0,hown0⟩:=h3 hD
   have e1:γ 3 = ψ (some ⟨g0,0,none⟩) 0 0:=e0
   obtain rfl:gn = g0:=by rw [g3] at e1;simpa using e1
   have hown1:u.ownsRow w.1.size 118 2 (γ 3) 0 []:=hown0
   rw [g3] at hown1
   refine Cr _ _ 28 rfl w.1.size 118 2 16 0 (σ #[O U 0,O U 0]) (ψ (some ⟨gn,0,none⟩) 0 0) [] C M.length cc (Af ceV M) underlying28 Dp rfl (by omega) rfl hown1 rfl (Ak Au) (NW.out u hu.1.1.1.1) (DW M) (by unfold maxLen;omega) (by omega) hu.1.1.1.1.size ?_
   intro v' w' hown hg hb2
   have hrow:Bv w' w.1.size v' M:=by have h:=hown;simp only [Nat.zero_add,List.nil_append] at h;exact h
   obtain ⟨A6,c6,rfl,_,_⟩:=hrow.reads Au
   refine ⟨⟨A6,c6,rfl⟩,?_⟩
   refine hu.moved hok hstab (y:=Dn 3 6 w.1.size 118 2) (z:=AE 6 w.1.size 118 2 M.length (Af ceV M)) (p:=gn) (by simp) (by simp) rfl rfl d3 (by intro y hy;simp only [List.mem_cons,List.not_mem_nil,or_false] at hy;rcases hy with rfl | rfl | rfl;exact .inr (.inr ⟨(nq rfl),(nq rfl),(nq rfl),rfl,rfl⟩);exact .inr (.inl rfl);exact .inl rfl) (nq rfl) ⟨rfl,rfl⟩ hD (nq rfl) (show Ae (γ 3) = [gn] by rw [g3];rfl) hg hrow (fun e=>by cases e) ?_ ?_
   ·intro g hgf
    rcases hb2 with h | h
    ·left
     cases A6 with
     | none=>cases hgf
     | some a=>simp [Value.ownBlock] at h;simp only [AE,List.mem_singleton] at hgf;omega
    ·right
     cases A6 with
     | none=>cases hgf
     | some a=>simp [Value.ownBlock] at h;simp only [AE,List.mem_singleton] at hgf;omega
   ·intro g hgf
    cases A6 with
    | none=>cases hgf
    | some a=>simp only [AE,List.mem_singleton] at hgf;subst hgf;exact (hrow.lt rfl).2
  ·obtain ⟨z,hz,hzs⟩:=hu.box
   refine AI hz rfl rfl (show _ = Value.agg #[O U cnt,ψ A4 L.length c4,O U mac,ψ A7 M.length c7] from rfl) (by kernel_rfl) hzs (by simp [Value.oneCell']) (fun w' hc hg=>⟨rfl,hu.stored hok hstab (by intro y hy;simp only [List.mem_cons,List.not_mem_nil,or_false] at hy;rcases hy with rfl | rfl | rfl <;> exact ⟨nq rfl,nq rfl⟩) (by intro y hy;simp only [List.mem_cons,List.not_mem_nil,or_false] at hy;rcases hy with rfl | rfl;exact hd { on:=2,ground:=Ground.phase } (by simp) rfl rfl;exact hd { on:=6,ground:=Ground.phase } (by simp) rfl rfl) hg ?_ _⟩)
   show Aa w' (w.1.size + 1) 91 (#[O U cnt,agg1 (γ 2),O U mac,γ 6])
   simp only [g2,g6]
   exact hc
 ·intro D uf hD hu
  have ho2:∃ A c,γ 2 = σ #[O U cnt,ψ A L.length c,O U mac] /\ Bl uf w.1.size (ψ A L.length c) L:=(hu.1.at_ (z:=Ei 2 w.1.size 94 8 L.length (Af truV L) (fun s=>σ #[O U cnt,s,O U mac])) (by simp) (hD 2 (by simp) rfl)).1
  simp only [g2] at ho2
  have ho6:Bv uf w.1.size (γ 6) M:=(hu.1.at_ (z:=AE 6 w.1.size 118 2 M.length (Af ceV M)) (by simp) (hD 6 (by simp) rfl)).1
  simp only [g6] at ho6
  obtain ⟨hres0,hf⟩:=hu.done (hD 8 (by simp) rfl)
  have hres:Aa uf (w.1.size + 1) 91 (#[O U cnt,agg1 (γ 2),O U mac,γ 6]):=hres0
  simp only [g2,g6] at hres
  clear hres0
  obtain ⟨A8,c8,e8,ho8⟩:=ho2
  simp only [Value.agg.injEq,Array.mk.injEq,List.cons.injEq,Value.slice.injEq,true_and,and_true] at e8
  obtain ⟨rfl,rfl⟩:=e8
  have hdis:∀ g ∈ Ae (agg1 (γ 2)),g ∉ Ae (γ 6):=hu.1.2.2.2.2.2.2.1 (Ei 2 w.1.size 94 8 L.length (Af truV L) (fun s=>σ #[O U cnt,s,O U mac])) (by simp) (AE 6 w.1.size 118 2 M.length (Af ceV M)) (by simp) (nq rfl) rfl (hD 2 (by simp) rfl) (hD 6 (by simp) rfl)
  rw [g2,g6] at hdis
  have d0:=hres.cell 0
  have d1:=hres.cell 1
  have d2:=hres.cell 2
  have d3:=hres.cell 3
  go_wp2_with fail
  exact bodyPost_ret (v:=σ #[O U cnt,ψ A4 L.length c4,O U mac,ψ A7 M.length c7]) (by simp [results,results169,go_sem,d0,d1,d2,d3,agg1]) rfl ⟨A4,c4,A7,c7,rfl,ho8,ho6,hdis,hf.1⟩
noncomputable def volB (key:Int) (l:List Int) (L:List Tru) (M:List Ce) (S:List SlN) (cnt:Int):Bool:=
 Dj key l L && (Dm key l M && (decide (S.length = 2) && (fitB key l (S.getD 0 default).trusts (S.getD 0 default).cells && (fitB key l (S.getD 1 default).trusts (S.getD 1 default).cells && decide (0 <= cnt /\ cnt <= 10000)))))
theorem Ib (key:Int) (A:Option Addr) (l:List Int) (cap:Nat) (B:Option Addr) (L:List Tru) (tc:Nat) (C:Option Addr) (M:List Ce) (cc:Nat) (E:Option Addr) (S:List SlN) (sc:Nat) (cnt:Int) (w:World)
    (hn:l.length <= maxLen) (hA:Ints w U w.1.size A l) (hL:L.length <= 1048576) (hB:Trs w w.1.size B L) (hM:M.length <= 1048576) (hC:Cls w w.1.size C M) (hS:S.length <= 1048576) (hE:DM w w.1.size E S) (hF:∀ i,i < S.length -> (S.getD i default).Fits):
    Calls prog 25 #[σ #[O U key,ψ A l.length cap,ψ B L.length tc,ψ C M.length cc,ψ E S.length sc,O U cnt]] w fun e w'=>e = τ (φ (volB key l L M S cnt)) /\ Below w.1.size w w':=by
 have K0:=hid (show Kept w [(w.1.size,31,#[O U key,ψ A l.length cap,ψ B L.length tc,ψ C M.length cc,ψ E S.length sc,O U cnt])] _ from (Kept.refl w).put1 _ _ #[O U key,ψ A l.length cap,ψ B L.length tc,ψ C M.length cc,ψ E S.length sc,O U cnt] rfl)
 have TS:=hid (fun (u:World) (hb:Below w.1.size w u)=>Fg key A B l cap L tc u hn ((hA.below hb (lr _)).more hb.size) (by unfold maxLen;omega) ((hB.below hb (lr _)).more hb.size))
 have CL:=hid (fun (u:World) (hb:Below w.1.size w u)=>FD key A C l cap M cc u hn ((hA.below hb (lr _)).more hb.size) (by unfold maxLen;omega) ((hC.below hb (lr _)).more hb.size))
 have FS:=hid (fun (s:SlN) (B:Option Addr) (tc:Nat) (C:Option Addr) (cc:Nat) (hs:s.Fits) (hr:SlR w w.1.size B tc C cc s) (u:World) (hb:Below w.1.size w u)=>
  LF key A l cap s.count B s.trusts tc s.mac C s.cells cc u hn ((hA.below hb (lr _)).more hb.size) hs.1 hs.2.1 ((hr.2.below hb (lr _)).more hb.size))
 have IN:=hid (fun (u:World)=>KH cnt 0 10000 _ u rfl)
 have HE:=hid hE
 have HF:=hid hF
 clear hA hB hC hE hF hn
 unfold volB
 generalize Dj key l L = ts at TS |-
 generalize Dm key l M = cs at CL |-
 generalize decide (0 <= cnt /\ cnt <= 10000) = ic at IN |-
 cases ts with
 | false=>
   rw [Bool.false_and]
   clear CL FS IN
   go_enter func25,ntmps25
   go_upto_region 1 with fail
   refine Aw (C:=fun u=>Kept w [(w.1.size,31,#[O U key,ψ A l.length cap,ψ B L.length tc,ψ C M.length cc,ψ E S.length sc,O U cnt])] u) (by kernel_rfl) (by kernel_rfl) (K0.out).drew ?_
   iterate 42 (first
    | go_big_quiet_skip
    | (go_big_quiet_want
       go_big_quiet_op
       first
        | go_big_quiet_on
        | (apply Exists.intro
           refine ⟨fun u hu=>?_,?_⟩
           ·first
              | with_reducible rfl
              | (go_at_call 79;exact (TS.out u hu.1).mono fun e w' h=>⟨h.1,hu.below h.2⟩)
              | (obtain ⟨X0,Y0,-⟩:=hu.rd;go_simp;first | done | with_reducible rfl)
           go_big_quiet_on)))
   refine wpQuiet_nil ?_
   intro uq hq
   go_wp2_with fail
   go_ret
   exact ⟨rfl,hq.1⟩
 | true=>
   rw [Bool.true_and]
   cases cs with
   | false=>
     rw [Bool.false_and]
     clear FS IN
     go_enter func25,ntmps25
     go_upto_region 1 with fail
     refine Aw (C:=fun u=>Kept w [(w.1.size,31,#[O U key,ψ A l.length cap,ψ B L.length tc,ψ C M.length cc,ψ E S.length sc,O U cnt])] u) (by kernel_rfl) (by kernel_rfl) (K0.out).drew ?_
     iterate 42 (first
      | go_big_quiet_skip
      | (go_big_quiet_want
         go_big_quiet_op
         first
          | go_big_quiet_on
          | (apply Exists.intro
             refine ⟨fun u hu=>?_,?_⟩
             ·first
                | with_reducible rfl
                | (go_at_call 79;exact (TS.out u hu.1).mono fun e w' h=>⟨h.1,hu.below h.2⟩)
                | (go_at_call 80;exact (CL.out u hu.1).mono fun e w' h=>⟨h.1,hu.below h.2⟩)
                | (obtain ⟨X0,Y0,-⟩:=hu.rd;go_simp;first | done | with_reducible rfl)
             go_big_quiet_on)))
     refine wpQuiet_nil ?_
     intro uq hq
     go_wp2_with fail
     go_ret
     exact ⟨rfl,hq.1⟩
   | true=>
     rw [Bool.true_and]
     by_cases h2:S.length = 2
     ·rw [decide_eq_true h2,Bool.true_and]
      obtain ⟨b,off,e0,hb,B0,tc0,C0,cc0,c0,c1,c2,c3,hr0⟩:=HE.out 0 (by omega)
      obtain ⟨b',off',e1,hb',B1,tc1,C1,cc1,c4,c5,c6,c7,hr1⟩:=HE.out 1 (by omega)
      rw [e0] at e1
      simp only [Option.some.injEq,Addr.mk.injEq,and_true] at e1
      obtain ⟨rfl,rfl⟩:=e1
      subst e0
      have F0:=hid (FS.out _ B0 tc0 C0 cc0 (HF.out 0 (by omega)) hr0)
      have F1:=hid (FS.out _ B1 tc1 C1 cc1 (HF.out 1 (by omega)) hr1)
      clear hr0 hr1 FS HE HF hb'
      simp only [Nat.zero_mul,Nat.add_zero,Nat.one_mul] at c0 c1 c2 c3 c4 c5 c6 c7
      rw [show off + 4 + 1 = off + 5 by omega] at c5
      rw [show off + 4 + 2 = off + 6 by omega] at c6
      rw [show off + 4 + 3 = off + 7 by omega] at c7
      generalize fitB key l (S.getD 0 default).trusts (S.getD 0 default).cells = f0 at F0 |-
      generalize fitB key l (S.getD 1 default).trusts (S.getD 1 default).cells = f1 at F1 |-
      generalize (S.getD 0 default).trusts.length = n0 at c1 F0
      generalize (S.getD 0 default).cells.length = n1 at c3 F0
      generalize (S.getD 1 default).trusts.length = n2 at c5 F1
      generalize (S.getD 1 default).cells.length = n3 at c7 F1
      generalize (S.getD 0 default).count = m0 at c0 F0
      generalize (S.getD 0 default).mac = m1 at c2 F0
      generalize (S.getD 1 default).count = m2 at c4 F1
      generalize (S.getD 1 default).mac = m3 at c6 F1
      have e2:((S.length:Int) == 2) = true:=beq_iff_eq.2 (by omega)
      have e3:(S.length == 2) = true:=beq_iff_eq.2 h2
      have l0:(0:Int) < S.length:=by omega
      have l1:(1:Int) < S.length:=by omega
      have l2:0 < S.length:=by omega
      have l3:1 < S.length:=by omega
      clear h2
      cases f0 with
      | false=>
        rw [Bool.false_and]
        clear IN F1
        go_enter func25,ntmps25
        go_upto_region 1 with fail
        refine Aw (C:=fun u=>Kept w [(w.1.size,31,#[O U key,ψ A l.length cap,ψ B L.length tc,ψ C M.length cc,ψ (some ⟨b,off,none⟩) S.length sc,O U cnt])] u) (by kernel_rfl) (by kernel_rfl) (K0.out).drew ?_
        iterate 42 (first
         | go_big_quiet_skip
         | (go_big_quiet_want
            go_big_quiet_op
            first
             | go_big_quiet_on
             | (apply Exists.intro
                refine ⟨fun u hu=>?_,?_⟩
                ·first
                   | with_reducible rfl
                   | (go_at_call 79;exact (TS.out u hu.1).mono fun e w' h=>⟨h.1,hu.below h.2⟩)
                   | (go_at_call 80;exact (CL.out u hu.1).mono fun e w' h=>⟨h.1,hu.below h.2⟩)
                   | (go_at_call 81;exact (F0.out u hu.1).mono fun e w' h=>⟨h.1,hu.below h.2⟩)
                   | (obtain ⟨X0,Y0,-⟩:=hu.rd;have d0:=(hu.1.cell (p:=⟨b,off,none⟩) hb).trans c0;have d1:=(hu.1.cell (p:=⟨b,off + 1,none⟩) hb).trans c1;have d2:=(hu.1.cell (p:=⟨b,off + 2,none⟩) hb).trans c2;have d3:=(hu.1.cell (p:=⟨b,off + 3,none⟩) hb).trans c3;have d4:=(hu.1.cell (p:=⟨b,off + 4,none⟩) hb).trans c4;have d5:=(hu.1.cell (p:=⟨b,off + 5,none⟩) hb).trans c5;have d6:=(hu.1.cell (p:=⟨b,off + 6,none⟩) hb).trans c6;have d7:=(hu.1.cell (p:=⟨b,off + 7,none⟩) hb).trans c7;go_simp;first | done | with_reducible rfl)
                go_big_quiet_on)))
        refine wpQuiet_nil ?_
        intro uq hq
        go_wp2_with fail
        go_ret
        exact ⟨rfl,hq.1⟩
      | true=>
        rw [Bool.true_and]
        cases f1 with
        | false=>
          rw [Bool.false_and]
          clear IN
          go_enter func25,ntmps25
          go_upto_region 1 with fail
          refine Aw (C:=fun u=>Kept w [(w.1.size,31,#[O U key,ψ A l.length cap,ψ B L.length tc,ψ C M.length cc,ψ (some ⟨b,off,none⟩) S.length sc,O U cnt])] u) (by kernel_rfl) (by kernel_rfl) (K0.out).drew ?_
          iterate 26 (first
           | go_big_quiet_skip
           | (go_big_quiet_want
              go_big_quiet_op
              first
               | go_big_quiet_on
               | (apply Exists.intro
                  refine ⟨fun u hu=>?_,?_⟩
                  ·first
                     | with_reducible rfl
                     | (go_at_call 79;exact (TS.out u hu.1).mono fun e w' h=>⟨h.1,hu.below h.2⟩)
                     | (go_at_call 80;exact (CL.out u hu.1).mono fun e w' h=>⟨h.1,hu.below h.2⟩)
                     | (go_at_call 81;exact (F0.out u hu.1).mono fun e w' h=>⟨h.1,hu.below h.2⟩)
                     | (obtain ⟨X0,Y0,-⟩:=hu.rd;have d0:=(hu.1.cell (p:=⟨b,off,none⟩) hb).trans c0;have d1:=(hu.1.cell (p:=⟨b,off + 1,none⟩) hb).trans c1;have d2:=(hu.1.cell (p:=⟨b,off + 2,none⟩) hb).trans c2;have d3:=(hu.1.cell (p:=⟨b,off + 3,none⟩) hb).trans c3;have d4:=(hu.1.cell (p:=⟨b,off + 4,none⟩) hb).trans c4;have d5:=(hu.1.cell (p:=⟨b,off + 5,none⟩) hb).trans c5;have d6:=(hu.1.cell (p:=⟨b,off + 6,none⟩) hb).trans c6;have d7:=(hu.1.cell (p:=⟨b,off + 7,none⟩) hb).trans c7;go_simp;first | done | with_reducible rfl)
                  go_big_quiet_on)))
          iterate 16 (first
           | go_big_quiet_skip
           | (go_big_quiet_want
              go_big_quiet_op
              first
               | go_big_quiet_on
               | (apply Exists.intro
                  refine ⟨fun u hu=>?_,?_⟩
                  ·first
                     | with_reducible rfl
                     | (go_at_call 81;exact (F1.out u hu.1).mono fun e w' h=>⟨h.1,hu.below h.2⟩)
                     | (obtain ⟨X0,Y0,-⟩:=hu.rd;have d0:=(hu.1.cell (p:=⟨b,off,none⟩) hb).trans c0;have d1:=(hu.1.cell (p:=⟨b,off + 1,none⟩) hb).trans c1;have d2:=(hu.1.cell (p:=⟨b,off + 2,none⟩) hb).trans c2;have d3:=(hu.1.cell (p:=⟨b,off + 3,none⟩) hb).trans c3;have d4:=(hu.1.cell (p:=⟨b,off + 4,none⟩) hb).trans c4;have d5:=(hu.1.cell (p:=⟨b,off + 5,none⟩) hb).trans c5;have d6:=(hu.1.cell (p:=⟨b,off + 6,none⟩) hb).trans c6;have d7:=(hu.1.cell (p:=⟨b,off + 7,none⟩) hb).trans c7;go_simp;first | done | with_reducible rfl)
                  go_big_quiet_on)))
          refine wpQuiet_nil ?_
          intro uq hq
          go_wp2_with fail
          go_ret
          exact ⟨rfl,hq.1⟩
        | true=>
          rw [Bool.true_and]
          go_enter func25,ntmps25
          go_upto_region 1 with fail
          refine Aw (C:=fun u=>Kept w [(w.1.size,31,#[O U key,ψ A l.length cap,ψ B L.length tc,ψ C M.length cc,ψ (some ⟨b,off,none⟩) S.length sc,O U cnt])] u) (by kernel_rfl) (by kernel_rfl) (K0.out).drew ?_
          iterate 26 (first
           | go_big_quiet_skip
           | (go_big_quiet_want
              go_big_quiet_op
              first
               | go_big_quiet_on
               | (apply Exists.intro
                  refine ⟨fun u hu=>?_,?_⟩
                  ·first
                     | with_reducible rfl
                     | (go_at_call 79;exact (TS.out u hu.1).mono fun e w' h=>⟨h.1,hu.below h.2⟩)
                     | (go_at_call 80;exact (CL.out u hu.1).mono fun e w' h=>⟨h.1,hu.below h.2⟩)
                     | (go_at_call 81;exact (F0.out u hu.1).mono fun e w' h=>⟨h.1,hu.below h.2⟩)
                     | (obtain ⟨X0,Y0,-⟩:=hu.rd;have d0:=(hu.1.cell (p:=⟨b,off,none⟩) hb).trans c0;have d1:=(hu.1.cell (p:=⟨b,off + 1,none⟩) hb).trans c1;have d2:=(hu.1.cell (p:=⟨b,off + 2,none⟩) hb).trans c2;have d3:=(hu.1.cell (p:=⟨b,off + 3,none⟩) hb).trans c3;have d4:=(hu.1.cell (p:=⟨b,off + 4,none⟩) hb).trans c4;have d5:=(hu.1.cell (p:=⟨b,off + 5,none⟩) hb).trans c5;have d6:=(hu.1.cell (p:=⟨b,off + 6,none⟩) hb).trans c6;have d7:=(hu.1.cell (p:=⟨b,off + 7,none⟩) hb).trans c7;go_simp;first | done | with_reducible rfl)
                  go_big_quiet_on)))
          iterate 16 (first
           | go_big_quiet_skip
           | (go_big_quiet_want
              go_big_quiet_op
              first
               | go_big_quiet_on
               | (apply Exists.intro
                  refine ⟨fun u hu=>?_,?_⟩
                  ·first
                     | with_reducible rfl
                     | (go_at_call 81;exact (F1.out u hu.1).mono fun e w' h=>⟨h.1,hu.below h.2⟩)
                     | (go_at_call 82;exact BI hu (IN.out u))
                     | (obtain ⟨X0,Y0,-⟩:=hu.rd;have d0:=(hu.1.cell (p:=⟨b,off,none⟩) hb).trans c0;have d1:=(hu.1.cell (p:=⟨b,off + 1,none⟩) hb).trans c1;have d2:=(hu.1.cell (p:=⟨b,off + 2,none⟩) hb).trans c2;have d3:=(hu.1.cell (p:=⟨b,off + 3,none⟩) hb).trans c3;have d4:=(hu.1.cell (p:=⟨b,off + 4,none⟩) hb).trans c4;have d5:=(hu.1.cell (p:=⟨b,off + 5,none⟩) hb).trans c5;have d6:=(hu.1.cell (p:=⟨b,off + 6,none⟩) hb).trans c6;have d7:=(hu.1.cell (p:=⟨b,off + 7,none⟩) hb).trans c7;go_simp;first | done | with_reducible rfl)
                  go_big_quiet_on)))
          refine wpQuiet_nil ?_
          intro uq hq
          go_wp2_with fail
          go_ret
          exact ⟨rfl,hq.1⟩
     ·rw [decide_eq_false h2,Bool.false_and]
      have e2:((S.length:Int) == 2) = false:=beq_false_of_ne (by omega)
      have e3:(S.length == 2) = false:=beq_false_of_ne h2
      clear h2 FS IN
      go_enter func25,ntmps25
      go_upto_region 1 with fail
      refine Aw (C:=fun u=>Kept w [(w.1.size,31,#[O U key,ψ A l.length cap,ψ B L.length tc,ψ C M.length cc,ψ E S.length sc,O U cnt])] u) (by kernel_rfl) (by kernel_rfl) (K0.out).drew ?_
      iterate 42 (first
       | go_big_quiet_skip
       | (go_big_quiet_want
          go_big_quiet_op
          first
           | go_big_quiet_on
           | (apply Exists.intro
              refine ⟨fun u hu=>?_,?_⟩
              ·first
                 | with_reducible rfl
                 | (go_at_call 79;exact (TS.out u hu.1).mono fun e w' h=>⟨h.1,hu.below h.2⟩)
                 | (go_at_call 80;exact (CL.out u hu.1).mono fun e w' h=>⟨h.1,hu.below h.2⟩)
                 | (obtain ⟨X0,Y0,-⟩:=hu.rd;go_simp;first | done | with_reducible rfl)
              go_big_quiet_on)))
      refine wpQuiet_nil ?_
      intro uq hq
      go_wp2_with fail
      go_ret
      exact ⟨rfl,hq.1⟩

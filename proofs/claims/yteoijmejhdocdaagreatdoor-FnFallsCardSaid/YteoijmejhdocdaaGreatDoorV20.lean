import Derived.Test.YteoijmejhdocdaaGreatDoorV18
namespace Go.Proofs.YteoijmejhdocdaaGreatDoor.Mx
open Go.ChangeShapes Go.WideShapes Go.ChangeAt Go.RowKit
set_option linter.unusedVariables false
open Go.Lib (hid)
open Go.Proofs.Tryz
set_option maxRecDepth 20000
set_option maxHeartbeats 64000000
open Value renaming int → O, slice → ψ, bool → φ, agg → σ
open IntKind renaming i64 → U
open Ending renaming returned → τ
theorem En:(∀ (key ct cv:Int) (r:Nat) (A:Option Addr) (l:List Int) (cap:Nat) (t0 t1 t2 t3 t4 t5 t6:Int) (w:World) (hn:l.length <= maxLen) (hcap:l.length <= cap) (hA:Ints w U w.1.size A l) (ht:Bk key l r ⟨t0,t1,t2,t3,t4,t5,t6,false⟩) (hc:AO ct cv) (h0:¬ 100000 <= t0) (h1:¬ 1000 <= t1) (hct:¬ t0 < ct) (hcu:t2 + 1 < l.getD r 0),Calls prog 133 #[σ #[O U key,ψ A l.length cap],O U r,σ #[O U t0,O U t1,O U t2,O U t3,O U t4,O U t5,O U t6,φ false],σ #[O U ct,O U cv]] w fun e w'=>e = τ (.tuple #[σ #[O U (Bo key l r ⟨t0,t1,t2,t3,t4,t5,t6,false⟩ ct cv).clock,O U (Bo key l r ⟨t0,t1,t2,t3,t4,t5,t6,false⟩ ct cv).epoch,O U (Bo key l r ⟨t0,t1,t2,t3,t4,t5,t6,false⟩ ct cv).cursor,O U (Bo key l r ⟨t0,t1,t2,t3,t4,t5,t6,false⟩ ct cv).read,O U (Bo key l r ⟨t0,t1,t2,t3,t4,t5,t6,false⟩ ct cv).written,O U (Bo key l r ⟨t0,t1,t2,t3,t4,t5,t6,false⟩ ct cv).nread,O U (Bo key l r ⟨t0,t1,t2,t3,t4,t5,t6,false⟩ ct cv).nwritten,φ (Bo key l r ⟨t0,t1,t2,t3,t4,t5,t6,false⟩ ct cv).failed],σ #[O U (Al key (Ad key l r + t2) (t0 + 1) (Av key (Ad key l r + t2) ct cv)).1,O U (Al key (Ad key l r + t2) (t0 + 1) (Av key (Ad key l r + t2) ct cv)).2],O U 0]) /\ Below w.1.size w w') /\
 (∀ (key ct cv:Int) (r:Nat) (A:Option Addr) (l:List Int) (cap:Nat) (t0 t1 t2 t3 t4 t5 t6:Int) (w:World) (hn:l.length <= maxLen) (hcap:l.length <= cap) (hA:Ints w U w.1.size A l) (ht:Bk key l r ⟨t0,t1,t2,t3,t4,t5,t6,false⟩) (hc:AO ct cv) (h0:¬ 100000 <= t0) (h1:¬ 1000 <= t1) (hct:¬ t0 < ct) (hcu:¬ t2 + 1 < l.getD r 0),Calls prog 133 #[σ #[O U key,ψ A l.length cap],O U r,σ #[O U t0,O U t1,O U t2,O U t3,O U t4,O U t5,O U t6,φ false],σ #[O U ct,O U cv]] w fun e w'=>e = τ (.tuple #[σ #[O U (AJ (Bo key l r ⟨t0,t1,t2,t3,t4,t5,t6,false⟩ ct cv)).1.clock,O U (AJ (Bo key l r ⟨t0,t1,t2,t3,t4,t5,t6,false⟩ ct cv)).1.epoch,O U (AJ (Bo key l r ⟨t0,t1,t2,t3,t4,t5,t6,false⟩ ct cv)).1.cursor,O U (AJ (Bo key l r ⟨t0,t1,t2,t3,t4,t5,t6,false⟩ ct cv)).1.read,O U (AJ (Bo key l r ⟨t0,t1,t2,t3,t4,t5,t6,false⟩ ct cv)).1.written,O U (AJ (Bo key l r ⟨t0,t1,t2,t3,t4,t5,t6,false⟩ ct cv)).1.nread,O U (AJ (Bo key l r ⟨t0,t1,t2,t3,t4,t5,t6,false⟩ ct cv)).1.nwritten,φ (AJ (Bo key l r ⟨t0,t1,t2,t3,t4,t5,t6,false⟩ ct cv)).1.failed],σ #[O U (Al key (Ad key l r + t2) (t0 + 1) (Av key (Ad key l r + t2) ct cv)).1,O U (Al key (Ad key l r + t2) (t0 + 1) (Av key (Ad key l r + t2) ct cv)).2],O U (AJ (Bo key l r ⟨t0,t1,t2,t3,t4,t5,t6,false⟩ ct cv)).2]) /\ Below w.1.size w w'):=by
 refine ⟨fun key ct cv r A l cap t0 t1 t2 t3 t4 t5 t6 w hn hcap hA ht hc h0 h1 hct hcu=>(fun (z_1:True)=>?_) trivial,fun key ct cv r A l cap t0 t1 t2 t3 t4 t5 t6 w hn hcap hA ht hc h0 h1 hct hcu=>(fun (z_2:True)=>?_) trivial⟩
 all_goals
  have K0:=hid (show Kept w [(w.1.size + 1 + 1 + 1 + 1,118,#[O U 0,O U 0]),(w.1.size + 1 + 1 + 1,94,#[O U 0,O U 0,O U 0,O U 0,O U 0,O U 0,O U 0,φ false]),(w.1.size + 1 + 1,118,#[O U ct,O U cv]),(w.1.size + 1,94,#[O U t0,O U t1,O U t2,O U t3,O U t4,O U t5,O U t6,φ false]),(w.1.size,26,#[O U key,ψ A l.length cap])] _ from ((((((Kept.refl w).put1 _ _ #[O U key,ψ A l.length cap] rfl).put1 _ _ #[O U t0,O U t1,O U t2,O U t3,O U t4,O U t5,O U t6,φ false] (by simp)).put1 _ _ #[O U ct,O U cv] (by simp)).put1 _ _ #[O U 0,O U 0,O U 0,O U 0,O U 0,O U 0,O U 0,φ false] (by simp)).put1 _ _ #[O U 0,O U 0] (by simp)))
  have FI:=hid (fun (u:World) (hb:Below w.1.size w u)=>CI key r A l cap u hn hcap ((hA.below hb (lr _)).more hb.size))
  have TO:=hid (fun (u:World) (hb:Below w.1.size w u)=>AX key r A l cap t0 t1 t2 t3 t4 t5 t6 false u hn ((hA.below hb (lr _)).more hb.size))
  have CO:=hid (fun (u:World)=>AQ ct cv u)
  have hf:0 <= Ad key l r /\ Ad key l r <= 32:=by
   have hl:r < l.length:=by have:=ht.2.1;omega
   rw [Cs ht.1 hl]
   have h1:=Dl ht.1.2.2.1 (show r <= l.length by omega)
   have h2:=ht.1.2.1.2
   omega
  have hd:decide (Ad key l r < 0) = false:=decide_eq_false (by omega)
  rw [Co ht] at TO
  rw [decide_eq_true hc] at CO
  have hl:r < l.length:=by have:=ht.2.1;omega
  have ht0:0 <= t0 /\ t0 <= 100000:=ht.2.2.1
  have ht1:0 <= t1:=ht.2.2.2.1.1
  have hv8:=ht.1.2.2.1 r hl
  have ht2:0 <= t2 /\ t2 <= 8:=by have:=ht.2.2.2.2.1;simp at this;simp at hv8;omega
  obtain ⟨p0,p1⟩:=hf
  obtain ⟨p2,p3⟩:=ht0
  obtain ⟨p4,p5⟩:=ht2
  have hm:=hn
  unfold maxLen at hm
  obtain ⟨bb,oo,rfl,hbb,hcc⟩:=hA r hl
  have b0:decide (100000 <= t0) = false:=decide_eq_false h0
  have b1:decide (1000 <= t1) = false:=decide_eq_false h1
  have b2:decide (t0 < ct) = false:=decide_eq_false hct
  obtain ⟨vv,hvv⟩:∃ v,v = l.getD r 0:=⟨_,rfl⟩
  rw [<- hvv] at hcc hcu hv8
  have VI:=hid (fun u=>FK key (Ad key l r + t2) ct cv u)
  have CC:=hid (fun u=>EO key (Ad key l r + t2) (t0 + 1) (Av key (Ad key l r + t2) ct cv) u)
  have T1:=hid (fun u=>CU (Ad key l r + t2) ct cv u)
  have T2:=hid (fun u=>CU (Ad key l r + t2) (Al key (Ad key l r + t2) (t0 + 1) (Av key (Ad key l r + t2) ct cv)).1 (Al key (Ad key l r + t2) (t0 + 1) (Av key (Ad key l r + t2) ct cv)).2 u)
  have G1:=hid (fun u=>Ej key (Ag (Ad key l r + t2) ct cv).1 (Ag (Ad key l r + t2) ct cv).2.1 (Ag (Ad key l r + t2) ct cv).2.2 u)
  have G2:=hid (fun u=>Ej key (Ag (Ad key l r + t2) (Al key (Ad key l r + t2) (t0 + 1) (Av key (Ad key l r + t2) ct cv)).1 (Al key (Ad key l r + t2) (t0 + 1) (Av key (Ad key l r + t2) ct cv)).2).1 (Ag (Ad key l r + t2) (Al key (Ad key l r + t2) (t0 + 1) (Av key (Ad key l r + t2) ct cv)).1 (Al key (Ad key l r + t2) (t0 + 1) (Av key (Ad key l r + t2) ct cv)).2).2.1 (Ag (Ad key l r + t2) (Al key (Ad key l r + t2) (t0 + 1) (Av key (Ad key l r + t2) ct cv)).1 (Al key (Ad key l r + t2) (t0 + 1) (Av key (Ad key l r + t2) ct cv)).2).2.2 u)
  have A1:=hid (fun u=>El t3 (Di key (Ag (Ad key l r + t2) ct cv).1 (Ag (Ad key l r + t2) ct cv).2.1 (Ag (Ad key l r + t2) ct cv).2.2) u)
  have A2:=hid (fun u=>El t6 (Di key (Ag (Ad key l r + t2) (Al key (Ad key l r + t2) (t0 + 1) (Av key (Ad key l r + t2) ct cv)).1 (Al key (Ad key l r + t2) (t0 + 1) (Av key (Ad key l r + t2) ct cv)).2).1 (Ag (Ad key l r + t2) (Al key (Ad key l r + t2) (t0 + 1) (Av key (Ad key l r + t2) ct cv)).1 (Al key (Ad key l r + t2) (t0 + 1) (Av key (Ad key l r + t2) ct cv)).2).2.1 (Ag (Ad key l r + t2) (Al key (Ad key l r + t2) (t0 + 1) (Av key (Ad key l r + t2) ct cv)).1 (Al key (Ad key l r + t2) (t0 + 1) (Av key (Ad key l r + t2) ct cv)).2).2.2) u)
  first
   | guard_hyp z_1
     unfold Bo
     simp only []
     generalize Bf t6 _ = n6 at A2 |-
     generalize Bf t3 _ = n3 at A1 |-
   | have VE:=hid (fun u=>Kg (t0 + 1) t1 (t2 + 1) (Bo key l r ⟨t0,t1,t2,t3,t4,t5,t6,false⟩ ct cv).read t4 t5 (Bo key l r ⟨t0,t1,t2,t3,t4,t5,t6,false⟩ ct cv).nwritten false u ht1 (by omega))
     unfold Bo at VE |-
     simp only [] at VE |-
     generalize Bf t6 _ = n6 at A2 VE |-
     generalize Bf t3 _ = n3 at A1 VE |-
  generalize Di key (Ag (Ad key l r + t2) (Al key (Ad key l r + t2) (t0 + 1) (Av key (Ad key l r + t2) ct cv)).1 (Al key (Ad key l r + t2) (t0 + 1) (Av key (Ad key l r + t2) ct cv)).2).1 (Ag (Ad key l r + t2) (Al key (Ad key l r + t2) (t0 + 1) (Av key (Ad key l r + t2) ct cv)).1 (Al key (Ad key l r + t2) (t0 + 1) (Av key (Ad key l r + t2) ct cv)).2).2.1 (Ag (Ad key l r + t2) (Al key (Ad key l r + t2) (t0 + 1) (Av key (Ad key l r + t2) ct cv)).1 (Al key (Ad key l r + t2) (t0 + 1) (Av key (Ad key l r + t2) ct cv)).2).2.2 = g2 at G2 A2
  generalize Di key (Ag (Ad key l r + t2) ct cv).1 (Ag (Ad key l r + t2) ct cv).2.1 (Ag (Ad key l r + t2) ct cv).2.2 = g1 at G1 A1
  generalize Ag (Ad key l r + t2) (Al key (Ad key l r + t2) (t0 + 1) (Av key (Ad key l r + t2) ct cv)).1 (Al key (Ad key l r + t2) (t0 + 1) (Av key (Ad key l r + t2) ct cv)).2 = q2 at T2 G2
  generalize Ag (Ad key l r + t2) ct cv = q1 at T1 G1
  obtain ⟨q11,q12,q13⟩:=q1
  obtain ⟨q21,q22,q23⟩:=q2
  generalize (Al key (Ad key l r + t2) (t0 + 1) (Av key (Ad key l r + t2) ct cv)) = cn at CC T2 |-
  obtain ⟨c1,c2⟩:=cn
  generalize Av key (Ad key l r + t2) ct cv = vl at VI CC
  simp only at CC T1 T2 G1 G2 |-
  clear ht hc hA hn h0 h1 hct hvv
  generalize Ad key l r = f at FI hd p0 p1 VI CC T1 T2
  first
   | guard_hyp z_1
     have b3:decide (t2 + 1 < vv) = true:=decide_eq_true hcu
   | generalize AJ ⟨t0 + 1,t1,t2 + 1,n3,t4,t5,n6,false⟩ = vd at VE |-
     obtain ⟨VT,vk⟩:=vd
     simp only at VE |-
     have b3:decide (t2 + 1 < vv) = false:=decide_eq_false hcu
  go_enter func133,ntmps133
  go_wp2_with fail
  refine (FI.out _ K0.out.1).mono ?_;rintro e uz1 ⟨rfl,bz2⟩
  have hz3:=K0.out.below bz2
  clear bz2
  obtain ⟨X0,Y0,X1,Y1,X2,Y2,X3,Y3,X4,Y4,-⟩:=hz3.rd
  go_wp2_with fail
  refine (TO.out _ hz3.1).mono ?_;rintro e uz4 ⟨rfl,bz5⟩
  have hz6:=hz3.below bz5
  clear bz5 hz3 X0 Y0 X1 Y1 X2 Y2 X3 Y3 X4 Y4
  obtain ⟨X0,Y0,X1,Y1,X2,Y2,X3,Y3,X4,Y4,-⟩:=hz6.rd
  go_wp2_with fail
  refine (CO.out _).mono ?_;rintro e uz7 ⟨rfl,bz8⟩
  have hz9:=hz6.below bz8
  clear bz8 hz6 X0 Y0 X1 Y1 X2 Y2 X3 Y3 X4 Y4
  obtain ⟨X0,Y0,X1,Y1,X2,Y2,X3,Y3,X4,Y4,-⟩:=hz9.rd
  go_upto_region 13 with fail
  have hz10:Kept w [(w.1.size + 1 + 1 + 1 + 1,118,#[O U 0,O U 0]),(w.1.size + 1 + 1 + 1,94,#[O U 0,O U 0,O U 0,O U 0,O U 0,O U 0,O U 0,φ false]),(w.1.size + 1 + 1,118,#[O U ct,O U cv]),(w.1.size + 1,94,#[O U (t0 + 1),O U t1,O U t2,O U t3,O U t4,O U t5,O U t6,φ false]),(w.1.size,26,#[O U key,ψ (some ⟨bb,oo,none⟩) l.length cap])] _:=hz9.put (k:=3) rfl (by unfold Apart;simp <;> omega) (Ai (Aj _ (some (w.1.size + 1))) 0 (O U (t0 + 1))) ((hz9.at_ (p:=w.1.size + 1) (t:=94) (cs:=#[O U t0,O U t1,O U t2,O U t3,O U t4,O U t5,O U t6,φ false]) (by simp)).set_ 0 _)
  clear hz9 X0 Y0 X1 Y1 X2 Y2 X3 Y3 X4 Y4
  generalize World.setCell _ _ _ = wq at hz10 |-
  obtain ⟨X0,Y0,X1,Y1,X2,Y2,X3,Y3,X4,Y4,-⟩:=hz10.rd
  have lm0:w.1.size + 1 + 1 + 1 + 1 < wq.1.size:=hz10.lt (x:=(w.1.size + 1 + 1 + 1 + 1,118,#[O U 0,O U 0])) (by simp)
  have lm1:w.1.size + 1 + 1 + 1 < wq.1.size:=hz10.lt (x:=(w.1.size + 1 + 1 + 1,94,#[O U 0,O U 0,O U 0,O U 0,O U 0,O U 0,O U 0,φ false])) (by simp)
  have lm2:w.1.size + 1 + 1 < wq.1.size:=hz10.lt (x:=(w.1.size + 1 + 1,118,#[O U ct,O U cv])) (by simp)
  have lm3:w.1.size + 1 < wq.1.size:=hz10.lt (x:=(w.1.size + 1,94,#[O U (t0 + 1),O U t1,O U t2,O U t3,O U t4,O U t5,O U t6,φ false])) (by simp)
  have lm4:w.1.size < wq.1.size:=hz10.lt (x:=(w.1.size,26,#[O U key,ψ (some ⟨bb,oo,none⟩) l.length cap])) (by simp)
  have hst:∀ x ∈ ([]:List Res),w.1.size <= x.2.1 /\ (∀ y ∈ ([(w.1.size + 1 + 1 + 1 + 1,118,#[O U 0,O U 0]),(w.1.size + 1 + 1 + 1,94,#[O U 0,O U 0,O U 0,O U 0,O U 0,O U 0,O U 0,φ false]),(w.1.size + 1 + 1,118,#[O U ct,O U cv]),(w.1.size + 1,94,#[O U (t0 + 1),O U t1,O U t2,O U t3,O U t4,O U t5,O U t6,φ false]),(w.1.size,26,#[O U key,ψ (some ⟨bb,oo,none⟩) l.length cap])]:List Box),y.1 ≠ x.2.1) /\ ∃ z,Aa wq x.2.1 x.2.2.1 z /\ z.size = x.2.2.2.size:=by
   intro y hy
   cases hy
  have hn0:Kept w [(w.1.size + 1 + 1 + 1 + 1,118,#[O U 0,O U 0]),(w.1.size + 1 + 1 + 1,94,#[O U 0,O U 0,O U 0,O U 0,O U 0,O U 0,O U 0,φ false]),(w.1.size + 1 + 1,118,#[O U ct,O U cv]),(w.1.size + 1,94,#[O U (t0 + 1),O U t1,O U t2,O U t3,O U t4,O U t5,O U t6,φ false]),(w.1.size,26,#[O U key,ψ (some ⟨bb,oo,none⟩) l.length cap])] _:=hz10.sub (by intro y hy;simp at hy |-;rcases hy with rfl | rfl | rfl | rfl | rfl <;> simp)
  have hm0:∀ γ,DL w (wq.1.size) [(w.1.size + 1 + 1 + 1 + 1,118,#[O U 0,O U 0]),(w.1.size + 1 + 1 + 1,94,#[O U 0,O U 0,O U 0,O U 0,O U 0,O U 0,O U 0,φ false]),(w.1.size + 1 + 1,118,#[O U ct,O U cv]),(w.1.size + 1,94,#[O U (t0 + 1),O U t1,O U t2,O U t3,O U t4,O U t5,O U t6,φ false]),(w.1.size,26,#[O U key,ψ (some ⟨bb,oo,none⟩) l.length cap])] [] [(11,12,118,#[O U c1,O U c2])] (fun _=>false) γ _:=fun γ=>DL.start (ResC.start hn0 hst) hn0.1.size (by simp) (by intro y hy;simp only [List.mem_cons,List.not_mem_nil,or_false] at hy;rcases hy with rfl | rfl | rfl | rfl | rfl <;> (simp only [];omega)) (by intro y hy;cases hy)
  refine Ao [false,false,false,false,false,false,false,false,false,true,true,true,true] (ShM [(9,O U vl),(10,σ #[O U c1,O U c2])] [11]) (fun D γ u=>DL w (wq.1.size) [(w.1.size + 1 + 1 + 1 + 1,118,#[O U 0,O U 0]),(w.1.size + 1 + 1 + 1,94,#[O U 0,O U 0,O U 0,O U 0,O U 0,O U 0,O U 0,φ false]),(w.1.size + 1 + 1,118,#[O U ct,O U cv]),(w.1.size + 1,94,#[O U (t0 + 1),O U t1,O U t2,O U t3,O U t4,O U t5,O U t6,φ false]),(w.1.size,26,#[O U key,ψ (some ⟨bb,oo,none⟩) l.length cap])] [] [(11,12,118,#[O U c1,O U c2])] D γ u) (by kernel_rfl) (by kernel_rfl) (fun γ=>by kernel_rfl) (fun D γ γ' w ha h=>h.loc ha) (ShM.inh _ _) (fun γ=>hm0 γ) (fun γ hγ=>?_)
  clear hst hn0 hm0
  have g9:γ 9 = O U vl:=hγ 9 rfl
  have g10:γ 10 = σ #[O U c1,O U c2]:=hγ 10 rfl
  have g12:γ 12 = undef:=hγ 12 rfl
  obtain ⟨gg,g11⟩:∃ g:Nat,γ 11 = .pointer (some ⟨g,0,none⟩):=hγ 11 rfl
  clear hz10 X0 Y0 X1 Y1 X2 Y2 X3 Y3 X4 Y4
  apply Exists.intro
  refine ⟨fun D=>?_,?_,?_⟩
  ·simp only [AP,cond_true,cond_false,Nat.reduceAdd,g9,g10,g12,g11]
   iterate 13 (first
    | go_big_quiet_skip
    | (go_big_quiet_want
       go_big_quiet_op
       first
        | go_big_quiet_on
        | (apply Exists.intro
           refine ⟨fun u hu=>?_,?_⟩
           ·first
              | with_reducible rfl
              | (obtain ⟨X0,Y0,X1,Y1,X2,Y2,X3,Y3,X4,Y4,-⟩:=hu.1.1.rd;go_simp;first | done | with_reducible rfl)
           go_big_quiet_on)))
   exact wpQuiet_nil rfl
  ·simp only [AY,Nat.reduceAdd]
   refine ⟨fun D u hD hd hu=>?_,fun D u hD hd hu=>?_,fun D u hD hd hu=>?_,fun D u hD hd hu=>?_,trivial⟩
   ·exact As ((VI.out u).mono fun e w' ⟨he,hb⟩=>⟨_,he,rfl,hu.below hb 9 _ (by simp)⟩) rfl rfl rfl rfl (by kernel_rfl)
   ·exact As ((CC.out u).mono fun e w' ⟨he,hb⟩=>⟨_,he,rfl,hu.below hb 10 _ (by simp)⟩) rfl rfl rfl rfl (by kernel_rfl)
   ·exact DJ (cs:=#[O U 0,O U 0]) rfl (by kernel_rfl) ⟨⟨_,rfl⟩,hu.made (j:=12) (t:=118) (V:=#[O U c1,O U c2]) (by simp) (by simp) (by simp) hD (by decide) rfl⟩
   ·have dk:=hd { on:=11,ground:=Ground.data } (by simp) rfl rfl
    obtain ⟨g0,e1,z,hz,hzs⟩:=hu.box (k:=11) (j:=12) (t:=118) (V:=#[O U c1,O U c2]) (by simp) dk
    obtain rfl:gg = g0:=by rw [g11] at e1;simpa using e1
    exact AI hz rfl rfl rfl (by kernel_rfl) hzs (by simp [Value.oneCell']) (fun w' hc hg=>⟨rfl,hu.filled (k:=11) (t:=118) (V:=#[O U c1,O U c2]) (by simp) dk (by simp) (by simp) (by decide) e1 hg hc _⟩)
  ·intro D uf hD hu
   have hf:=hu.done (by intro y hy;cases hy)
   obtain ⟨g0,e1,hge11,hgc11⟩:=hu.doneM (k:=11) (j:=12) (t:=118) (V:=#[O U c1,O U c2]) (by simp) (hD 11 (by simp) rfl) (hD 12 (by simp) rfl)
   obtain rfl:gg = g0:=by rw [g11] at e1;simpa using e1
   clear e1
   have hfz11:=hf.more (Nat.le_trans hu.2.1 hge11) hgc11
   clear hf hgc11
   clear hu hD
   obtain ⟨X0,Y0,X1,Y1,X2,Y2,X3,Y3,X4,Y4,X5,Y5,-⟩:=hfz11.rd
   go_upto_region 14 with fail
   refine EW (C:=fun u=>Kept w [(gg,118,#[O U c1,O U c2]),(w.1.size + 1 + 1 + 1 + 1,118,#[O U 0,O U 0]),(w.1.size + 1 + 1 + 1,94,#[O U 0,O U 0,O U 0,O U 0,O U 0,O U 0,O U 0,φ false]),(w.1.size + 1 + 1,118,#[O U ct,O U cv]),(w.1.size + 1,94,#[O U (t0 + 1),O U t1,O U t2,O U t3,O U t4,O U t5,O U t6,φ false]),(w.1.size,26,#[O U key,ψ (some ⟨bb,oo,none⟩) l.length cap])] u) 10 (by kernel_rfl) (by kernel_rfl) (hfz11).drew ?_
   clear hfz11 X0 Y0 X1 Y1 X2 Y2 X3 Y3 X4 Y4 X5 Y5
   simp only [List.take_succ_cons,List.take_zero,List.drop_succ_cons,List.drop_zero]
   iterate 10 (first
    | go_big_quiet_skip
    | (go_big_quiet_want
       go_big_quiet_op
       first
        | go_big_quiet_on
        | (apply Exists.intro
           refine ⟨fun u hu=>?_,?_⟩
           ·first
              | with_reducible rfl
              | (go_at_call 149;exact (T1.out u).mono fun e w' h=>⟨h.1,hu.below h.2⟩)
              | (go_at_call 207;exact (G1.out u).mono fun e w' h=>⟨h.1,hu.below h.2⟩)
              | (go_at_call 206;exact BI hu (A1.out u))
              | (obtain ⟨X0,Y0,X1,Y1,X2,Y2,X3,Y3,X4,Y4,X5,Y5,-⟩:=hu.rd;go_simp;first | done | with_reducible rfl)
           go_big_quiet_on)))
   refine wpQuiet_nil ?_
   intro uz12 hz13
   obtain ⟨X0,Y0,X1,Y1,X2,Y2,X3,Y3,X4,Y4,X5,Y5,-⟩:=hz13.rd
   go_upto_region 15 with fail
   have hz14:Kept w [(gg,118,#[O U c1,O U c2]),(w.1.size + 1 + 1 + 1 + 1,118,#[O U 0,O U 0]),(w.1.size + 1 + 1 + 1,94,#[O U 0,O U 0,O U 0,O U 0,O U 0,O U 0,O U 0,φ false]),(w.1.size + 1 + 1,118,#[O U ct,O U cv]),(w.1.size + 1,94,#[O U (t0 + 1),O U t1,O U t2,O U n3,O U t4,O U t5,O U t6,φ false]),(w.1.size,26,#[O U key,ψ (some ⟨bb,oo,none⟩) l.length cap])] _:=hz13.put (k:=4) rfl (by unfold Apart;simp <;> omega) (Ai (Aj _ (some (w.1.size + 1))) 3 (O U n3)) ((hz13.at_ (p:=w.1.size + 1) (t:=94) (cs:=#[O U (t0 + 1),O U t1,O U t2,O U t3,O U t4,O U t5,O U t6,φ false]) (by simp)).set_ 3 _)
   clear hz13 X0 Y0 X1 Y1 X2 Y2 X3 Y3 X4 Y4 X5 Y5
   generalize World.setCell _ _ _ = wa at hz14 |-
   obtain ⟨X0,Y0,X1,Y1,X2,Y2,X3,Y3,X4,Y4,X5,Y5,-⟩:=hz14.rd
   clear X0 Y0 X1 Y1 X2 Y2 X3 Y3 X4 Y4 X5 Y5
   refine EW (C:=fun u=>Kept w [(gg,118,#[O U c1,O U c2]),(w.1.size + 1 + 1 + 1 + 1,118,#[O U 0,O U 0]),(w.1.size + 1 + 1 + 1,94,#[O U 0,O U 0,O U 0,O U 0,O U 0,O U 0,O U 0,φ false]),(w.1.size + 1 + 1,118,#[O U ct,O U cv]),(w.1.size + 1,94,#[O U (t0 + 1),O U t1,O U t2,O U n3,O U t4,O U t5,O U t6,φ false]),(w.1.size,26,#[O U key,ψ (some ⟨bb,oo,none⟩) l.length cap])] u) 10 (by kernel_rfl) (by kernel_rfl) (hz14).drew ?_
   clear hz14
   simp only [List.take_succ_cons,List.take_zero,List.drop_succ_cons,List.drop_zero]
   iterate 10 (first
    | go_big_quiet_skip
    | (go_big_quiet_want
       go_big_quiet_op
       first
        | go_big_quiet_on
        | (apply Exists.intro
           refine ⟨fun u hu=>?_,?_⟩
           ·first
              | with_reducible rfl
              | (go_at_call 149;exact (T2.out u).mono fun e w' h=>⟨h.1,hu.below h.2⟩)
              | (go_at_call 207;exact (G2.out u).mono fun e w' h=>⟨h.1,hu.below h.2⟩)
              | (go_at_call 206;exact BI hu (A2.out u))
              | (obtain ⟨X0,Y0,X1,Y1,X2,Y2,X3,Y3,X4,Y4,X5,Y5,-⟩:=hu.rd;go_simp;first | done | with_reducible rfl)
           go_big_quiet_on)))
   refine wpQuiet_nil ?_
   intro uz15 hz16
   obtain ⟨X0,Y0,X1,Y1,X2,Y2,X3,Y3,X4,Y4,X5,Y5,-⟩:=hz16.rd
   go_upto_region 16 with fail
   have hz17:Kept w [(gg,118,#[O U c1,O U c2]),(w.1.size + 1 + 1 + 1 + 1,118,#[O U 0,O U 0]),(w.1.size + 1 + 1 + 1,94,#[O U 0,O U 0,O U 0,O U 0,O U 0,O U 0,O U 0,φ false]),(w.1.size + 1 + 1,118,#[O U ct,O U cv]),(w.1.size + 1,94,#[O U (t0 + 1),O U t1,O U t2,O U n3,O U t4,O U t5,O U n6,φ false]),(w.1.size,26,#[O U key,ψ (some ⟨bb,oo,none⟩) l.length cap])] _:=hz16.put (k:=4) rfl (by unfold Apart;simp <;> omega) (Ai (Aj _ (some (w.1.size + 1))) 6 (O U n6)) ((hz16.at_ (p:=w.1.size + 1) (t:=94) (cs:=#[O U (t0 + 1),O U t1,O U t2,O U n3,O U t4,O U t5,O U t6,φ false]) (by simp)).set_ 6 _)
   clear hz16 X0 Y0 X1 Y1 X2 Y2 X3 Y3 X4 Y4 X5 Y5
   generalize World.setCell _ _ _ = wb at hz17 |-
   obtain ⟨X0,Y0,X1,Y1,X2,Y2,X3,Y3,X4,Y4,X5,Y5,-⟩:=hz17.rd
   go_upto_region 17 with fail
   have hz18:Kept w [(gg,118,#[O U c1,O U c2]),(w.1.size + 1 + 1 + 1 + 1,118,#[O U 0,O U 0]),(w.1.size + 1 + 1 + 1,94,#[O U 0,O U 0,O U 0,O U 0,O U 0,O U 0,O U 0,φ false]),(w.1.size + 1 + 1,118,#[O U ct,O U cv]),(w.1.size + 1,94,#[O U (t0 + 1),O U t1,O U (t2 + 1),O U n3,O U t4,O U t5,O U n6,φ false]),(w.1.size,26,#[O U key,ψ (some ⟨bb,oo,none⟩) l.length cap])] _:=hz17.put (k:=4) rfl (by unfold Apart;simp <;> omega) (Ai (Aj _ (some (w.1.size + 1))) 2 (O U (t2 + 1))) ((hz17.at_ (p:=w.1.size + 1) (t:=94) (cs:=#[O U (t0 + 1),O U t1,O U t2,O U n3,O U t4,O U t5,O U n6,φ false]) (by simp)).set_ 2 _)
   clear hz17 X0 Y0 X1 Y1 X2 Y2 X3 Y3 X4 Y4 X5 Y5
   generalize World.setCell _ _ _ = wc at hz18 |-
   obtain ⟨X0,Y0,X1,Y1,X2,Y2,X3,Y3,X4,Y4,X5,Y5,-⟩:=hz18.rd
   have ci:wc.cell? ⟨bb,oo + r,none⟩ = some (O U vv):=(hz18.1.cell (p:=⟨bb,oo + r,none⟩) hbb).trans hcc
   go_quiet (fail)
   have hz19:=hz18.drewN nq
   clear ci hz18 X0 Y0 X1 Y1 X2 Y2 X3 Y3 X4 Y4 X5 Y5
   generalize World.drewN _ _ = wd at hz19 |-
   obtain ⟨X0,Y0,X1,Y1,X2,Y2,X3,Y3,X4,Y4,X5,Y5,-⟩:=hz19.rd
   first
    | guard_hyp z_1
      go_upto_region 18 with fail
      have hst:∀ x ∈ ([(2,w.1.size + 1 + 1 + 1,94,#[O U (t0 + 1),O U t1,O U (t2 + 1),O U n3,O U t4,O U t5,O U n6,φ false]),(3,w.1.size + 1 + 1 + 1 + 1,118,#[O U c1,O U c2])]:List Res),w.1.size <= x.2.1 /\ (∀ y ∈ ([(gg,118,#[O U c1,O U c2]),(w.1.size + 1 + 1,118,#[O U ct,O U cv]),(w.1.size + 1,94,#[O U (t0 + 1),O U t1,O U (t2 + 1),O U n3,O U t4,O U t5,O U n6,φ false]),(w.1.size,26,#[O U key,ψ (some ⟨bb,oo,none⟩) l.length cap])]:List Box),y.1 ≠ x.2.1) /\ ∃ z,Aa wd x.2.1 x.2.2.1 z /\ z.size = x.2.2.2.size:=by
       intro y hy
       simp only [List.mem_cons,List.not_mem_nil,or_false] at hy
       rcases hy with rfl | rfl
       ·exact ⟨by simp only [] <;> omega,by intro y hy;simp at hy;rcases hy with rfl | rfl | rfl | rfl <;> simp <;> omega,_,hz19.at_ (t:=94) (cs:=#[O U 0,O U 0,O U 0,O U 0,O U 0,O U 0,O U 0,φ false]) (by simp),rfl⟩
       ·exact ⟨by simp only [] <;> omega,by intro y hy;simp at hy;rcases hy with rfl | rfl | rfl | rfl <;> simp <;> omega,_,hz19.at_ (t:=118) (cs:=#[O U 0,O U 0]) (by simp),rfl⟩
      have hn0:Kept w [(gg,118,#[O U c1,O U c2]),(w.1.size + 1 + 1,118,#[O U ct,O U cv]),(w.1.size + 1,94,#[O U (t0 + 1),O U t1,O U (t2 + 1),O U n3,O U t4,O U t5,O U n6,φ false]),(w.1.size,26,#[O U key,ψ (some ⟨bb,oo,none⟩) l.length cap])] _:=hz19.sub (by intro y hy;simp at hy |-;rcases hy with rfl | rfl | rfl | rfl <;> simp)
      refine Ao [false,false,true,true,false] (ShV []) (fun D _ u=>ResC w [(gg,118,#[O U c1,O U c2]),(w.1.size + 1 + 1,118,#[O U ct,O U cv]),(w.1.size + 1,94,#[O U (t0 + 1),O U t1,O U (t2 + 1),O U n3,O U t4,O U t5,O U n6,φ false]),(w.1.size,26,#[O U key,ψ (some ⟨bb,oo,none⟩) l.length cap])] [(2,w.1.size + 1 + 1 + 1,94,#[O U (t0 + 1),O U t1,O U (t2 + 1),O U n3,O U t4,O U t5,O U n6,φ false]),(3,w.1.size + 1 + 1 + 1 + 1,118,#[O U c1,O U c2])] D u) (by kernel_rfl) (by kernel_rfl) (fun γ=>by kernel_rfl) (fun D γ γ' w _ h=>h) (ShV.inh _) (fun γ=>ResC.start hn0 hst) (fun γ hγ=>?_)
    | go_wp2_with fail
      refine (VE.out _).mono ?_;rintro e uz20 ⟨rfl,bz21⟩
      have hz22:=hz19.below bz21
      clear bz21 hz19 X0 Y0 X1 Y1 X2 Y2 X3 Y3 X4 Y4 X5 Y5
      obtain ⟨X0,Y0,X1,Y1,X2,Y2,X3,Y3,X4,Y4,X5,Y5,-⟩:=hz22.rd
      have lt0hz23:gg < uz20.1.size:=hz22.lt (x:=(gg,118,#[O U c1,O U c2])) (by simp)
      have lt1hz23:w.1.size + 1 + 1 + 1 + 1 < uz20.1.size:=hz22.lt (x:=(w.1.size + 1 + 1 + 1 + 1,118,#[O U 0,O U 0])) (by simp)
      have lt2hz23:w.1.size + 1 + 1 + 1 < uz20.1.size:=hz22.lt (x:=(w.1.size + 1 + 1 + 1,94,#[O U 0,O U 0,O U 0,O U 0,O U 0,O U 0,O U 0,φ false])) (by simp)
      have lt3hz23:w.1.size + 1 + 1 < uz20.1.size:=hz22.lt (x:=(w.1.size + 1 + 1,118,#[O U ct,O U cv])) (by simp)
      have lt4hz23:w.1.size + 1 < uz20.1.size:=hz22.lt (x:=(w.1.size + 1,94,#[O U (t0 + 1),O U t1,O U (t2 + 1),O U n3,O U t4,O U t5,O U n6,φ false])) (by simp)
      have lt5hz23:w.1.size < uz20.1.size:=hz22.lt (x:=(w.1.size,26,#[O U key,ψ (some ⟨bb,oo,none⟩) l.length cap])) (by simp)
      have hz23:=hz22.put1 uz20.1.size 94 #[O U VT.clock,O U VT.epoch,O U VT.cursor,O U VT.read,O U VT.written,O U VT.nread,O U VT.nwritten,φ VT.failed] rfl
      clear hz22 X0 Y0 X1 Y1 X2 Y2 X3 Y3 X4 Y4 X5 Y5
      go_upto_region 20 with fail
      have hst:∀ x ∈ ([(3,w.1.size + 1 + 1 + 1,94,#[O U VT.clock,O U VT.epoch,O U VT.cursor,O U VT.read,O U VT.written,O U VT.nread,O U VT.nwritten,φ VT.failed]),(4,w.1.size + 1 + 1 + 1 + 1,118,#[O U c1,O U c2])]:List Res),w.1.size <= x.2.1 /\ (∀ y ∈ ([(uz20.1.size,94,#[O U VT.clock,O U VT.epoch,O U VT.cursor,O U VT.read,O U VT.written,O U VT.nread,O U VT.nwritten,φ VT.failed]),(gg,118,#[O U c1,O U c2]),(w.1.size + 1 + 1,118,#[O U ct,O U cv]),(w.1.size + 1,94,#[O U (t0 + 1),O U t1,O U (t2 + 1),O U n3,O U t4,O U t5,O U n6,φ false]),(w.1.size,26,#[O U key,ψ (some ⟨bb,oo,none⟩) l.length cap])]:List Box),y.1 ≠ x.2.1) /\ ∃ z,Aa (uz20.alloc (.cells #[O U VT.clock,O U VT.epoch,O U VT.cursor,O U VT.read,O U VT.written,O U VT.nread,O U VT.nwritten,φ VT.failed] 94)) x.2.1 x.2.2.1 z /\ z.size = x.2.2.2.size:=by
       intro y hy
       simp only [List.mem_cons,List.not_mem_nil,or_false] at hy
       rcases hy with rfl | rfl
       ·exact ⟨by simp only [] <;> omega,by intro y hy;simp at hy;rcases hy with rfl | rfl | rfl | rfl | rfl <;> simp <;> omega,_,hz23.at_ (t:=94) (cs:=#[O U 0,O U 0,O U 0,O U 0,O U 0,O U 0,O U 0,φ false]) (by simp),rfl⟩
       ·exact ⟨by simp only [] <;> omega,by intro y hy;simp at hy;rcases hy with rfl | rfl | rfl | rfl | rfl <;> simp <;> omega,_,hz23.at_ (t:=118) (cs:=#[O U 0,O U 0]) (by simp),rfl⟩
      have hn0:Kept w [(uz20.1.size,94,#[O U VT.clock,O U VT.epoch,O U VT.cursor,O U VT.read,O U VT.written,O U VT.nread,O U VT.nwritten,φ VT.failed]),(gg,118,#[O U c1,O U c2]),(w.1.size + 1 + 1,118,#[O U ct,O U cv]),(w.1.size + 1,94,#[O U (t0 + 1),O U t1,O U (t2 + 1),O U n3,O U t4,O U t5,O U n6,φ false]),(w.1.size,26,#[O U key,ψ (some ⟨bb,oo,none⟩) l.length cap])] _:=hz23.sub (by intro y hy;simp at hy |-;rcases hy with rfl | rfl | rfl | rfl | rfl <;> simp)
      refine Ao [false,false,false,true,true,false] (ShV []) (fun D _ u=>ResC w [(uz20.1.size,94,#[O U VT.clock,O U VT.epoch,O U VT.cursor,O U VT.read,O U VT.written,O U VT.nread,O U VT.nwritten,φ VT.failed]),(gg,118,#[O U c1,O U c2]),(w.1.size + 1 + 1,118,#[O U ct,O U cv]),(w.1.size + 1,94,#[O U (t0 + 1),O U t1,O U (t2 + 1),O U n3,O U t4,O U t5,O U n6,φ false]),(w.1.size,26,#[O U key,ψ (some ⟨bb,oo,none⟩) l.length cap])] [(3,w.1.size + 1 + 1 + 1,94,#[O U VT.clock,O U VT.epoch,O U VT.cursor,O U VT.read,O U VT.written,O U VT.nread,O U VT.nwritten,φ VT.failed]),(4,w.1.size + 1 + 1 + 1 + 1,118,#[O U c1,O U c2])] D u) (by kernel_rfl) (by kernel_rfl) (fun γ=>by kernel_rfl) (fun D γ γ' w _ h=>h) (ShV.inh _) (fun γ=>ResC.start hn0 hst) (fun γ hγ=>?_)
   clear hst hn0
   first
    | guard_hyp z_1
      have g2:γ 2 = undef:=hγ 2 rfl
    | skip
   have g3:γ 3 = undef:=hγ 3 rfl
   first
    | guard_hyp z_1
      clear hz19 X0 Y0 X1 Y1 X2 Y2 X3 Y3 X4 Y4 X5 Y5
    | have g4:γ 4 = undef:=hγ 4 rfl
      clear hz23
   apply Exists.intro
   refine ⟨fun D=>?_,?_,?_⟩
   first
    | guard_hyp z_1
      ·simp only [AP,cond_true,cond_false,Nat.reduceAdd,g2,g3]
       iterate 5 (first
        | go_big_quiet_skip
        | (go_big_quiet_want
           go_big_quiet_op
           first
            | go_big_quiet_on
            | (apply Exists.intro
               refine ⟨fun u hu=>?_,?_⟩
               ·first
                  | with_reducible rfl
                  | (obtain ⟨X0,Y0,X1,Y1,X2,Y2,X3,Y3,-⟩:=hu.1.rd;go_simp;first | done | with_reducible rfl)
               go_big_quiet_on)))
       exact wpQuiet_nil rfl
      ·simp only [AY,Nat.reduceAdd]
       refine ⟨fun D u hD hd hu=>?_,fun D u hD hd hu=>?_,trivial⟩
       ·obtain ⟨z,hz,hzs⟩:=hu.at_ (k:=2) (p:=w.1.size + 1 + 1 + 1) (t:=94) (V:=#[O U (t0 + 1),O U t1,O U (t2 + 1),O U n3,O U t4,O U t5,O U n6,φ false]) (by simp)
        exact AI hz rfl rfl rfl (by kernel_rfl) hzs (by simp [Value.oneCell']) (fun w' hc hg=>⟨rfl,hu.stored (by simp) (by simp) hg hc⟩)
       ·obtain ⟨z,hz,hzs⟩:=hu.at_ (k:=3) (p:=w.1.size + 1 + 1 + 1 + 1) (t:=118) (V:=#[O U c1,O U c2]) (by simp)
        exact AI hz rfl rfl rfl (by kernel_rfl) hzs (by simp [Value.oneCell']) (fun w' hc hg=>⟨rfl,hu.stored (by simp) (by simp) hg hc⟩)
      ·intro D uf hD hu
       have hf:=hu.done (by intro y hy;simp only [List.mem_cons,List.not_mem_nil,or_false] at hy;rcases hy with rfl | rfl;exact hD 2 (by simp) rfl;exact hD 3 (by simp) rfl)
       clear hu hD
       obtain ⟨X0,Y0,X1,Y1,X2,Y2,X3,Y3,X4,Y4,X5,Y5,-⟩:=hf.rd
       go_wp2_with fail
       exact bodyPost_ret (v:=(.tuple #[σ #[O U (t0 + 1),O U t1,O U (t2 + 1),O U n3,O U t4,O U t5,O U n6,φ false],σ #[O U c1,O U c2],O U 0])) (by simp [results,results133,go_sem,X0,X1]) rfl ⟨rfl,hf.1⟩
    | · simp only [AP,cond_true,cond_false,Nat.reduceAdd,g3,g4]
        iterate 6 (first
         | go_big_quiet_skip
         | (go_big_quiet_want
            go_big_quiet_op
            first
             | go_big_quiet_on
             | (apply Exists.intro
                refine ⟨fun u hu=>?_,?_⟩
                ·first
                   | with_reducible rfl
                   | (obtain ⟨X0,Y0,X1,Y1,X2,Y2,X3,Y3,X4,Y4,-⟩:=hu.1.rd;go_simp;first | done | with_reducible rfl)
                go_big_quiet_on)))
        exact wpQuiet_nil rfl
      ·simp only [AY,Nat.reduceAdd]
       refine ⟨fun D u hD hd hu=>?_,fun D u hD hd hu=>?_,trivial⟩
       ·obtain ⟨z,hz,hzs⟩:=hu.at_ (k:=3) (p:=w.1.size + 1 + 1 + 1) (t:=94) (V:=#[O U VT.clock,O U VT.epoch,O U VT.cursor,O U VT.read,O U VT.written,O U VT.nread,O U VT.nwritten,φ VT.failed]) (by simp)
        exact AI hz rfl rfl rfl (by kernel_rfl) hzs (by simp [Value.oneCell']) (fun w' hc hg=>⟨rfl,hu.stored (by simp) (by simp) hg hc⟩)
       ·obtain ⟨z,hz,hzs⟩:=hu.at_ (k:=4) (p:=w.1.size + 1 + 1 + 1 + 1) (t:=118) (V:=#[O U c1,O U c2]) (by simp)
        exact AI hz rfl rfl rfl (by kernel_rfl) hzs (by simp [Value.oneCell']) (fun w' hc hg=>⟨rfl,hu.stored (by simp) (by simp) hg hc⟩)
      ·intro D uf hD hu
       have hf:=hu.done (by intro y hy;simp only [List.mem_cons,List.not_mem_nil,or_false] at hy;rcases hy with rfl | rfl;exact hD 3 (by simp) rfl;exact hD 4 (by simp) rfl)
       clear hu hD
       obtain ⟨X0,Y0,X1,Y1,X2,Y2,X3,Y3,X4,Y4,X5,Y5,X6,Y6,-⟩:=hf.rd
       go_wp2_with fail
       exact bodyPost_ret (v:=(.tuple #[σ #[O U VT.clock,O U VT.epoch,O U VT.cursor,O U VT.read,O U VT.written,O U VT.nread,O U VT.nwritten,φ VT.failed],σ #[O U c1,O U c2],O U vk])) (by simp [results,results133,go_sem,X0,X1]) rfl ⟨rfl,hf.1⟩
theorem KU:type_of% En.1:=En.1
theorem Kl:type_of% En.2:=En.2

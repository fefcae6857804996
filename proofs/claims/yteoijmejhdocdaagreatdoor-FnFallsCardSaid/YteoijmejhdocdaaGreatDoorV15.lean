import Derived.Test.YteoijmejhdocdaaGreatDoorV14
namespace Go.Proofs.YteoijmejhdocdaaGreatDoor.Mx
open Go.ChangeShapes Go.WideShapes Go.ChangeAt Go.RowKit
set_option linter.unusedVariables false
open Go.Lib (hid)
open Go.Proofs.Tryz
set_option maxRecDepth 20000
set_option maxHeartbeats 64000000
open Value renaming int → O, slice → ψ, bool → φ, agg → σ
open IntKind renaming i64 → U
open Ending renaming returned → τ
theorem Lg (key x ct cv value:Int) (A:Option Addr) (l:List Int) (cap:Nat) (t0 t1 t2 t3 t4 t5 t6:Int) (w:World) (hn:l.length <= maxLen) (hcap:l.length <= cap) (hA:Ints w U w.1.size A l) (hr:0 <= Am key l x) (ht:Bk key l (Am key l x) ⟨t0,t1,t2,t3,t4,t5,t6,false⟩) (hc:AO ct cv) (hv:MM value) (hcl:¬ 100000 <= t0) (hct:¬ t0 < ct) (hxx:I64 x) (now:Int) (hnow:now = if value = -1 then Av key x ct cv else value):
    Calls prog 129 #[σ #[O U key,ψ A l.length cap],σ #[O U t0,O U t1,O U t2,O U t3,O U t4,O U t5,O U t6,φ false],O U x,σ #[O U ct,O U cv],O U value] w fun e w'=>e = τ (.tuple #[σ #[O U (Cu key ⟨t0 + 1,t1,t2,t3,t4,t5,t6,false⟩ (DC key l t2 x) (Ag x ct cv).1 (Ag x ct cv).2.1 (Ag x ct cv).2.2 (Ag x (Al key x (t0 + 1) now).1 (Al key x (t0 + 1) now).2).1 (Ag x (Al key x (t0 + 1) now).1 (Al key x (t0 + 1) now).2).2.1 (Ag x (Al key x (t0 + 1) now).1 (Al key x (t0 + 1) now).2).2.2).clock,O U (Cu key ⟨t0 + 1,t1,t2,t3,t4,t5,t6,false⟩ (DC key l t2 x) (Ag x ct cv).1 (Ag x ct cv).2.1 (Ag x ct cv).2.2 (Ag x (Al key x (t0 + 1) now).1 (Al key x (t0 + 1) now).2).1 (Ag x (Al key x (t0 + 1) now).1 (Al key x (t0 + 1) now).2).2.1 (Ag x (Al key x (t0 + 1) now).1 (Al key x (t0 + 1) now).2).2.2).epoch,O U (Cu key ⟨t0 + 1,t1,t2,t3,t4,t5,t6,false⟩ (DC key l t2 x) (Ag x ct cv).1 (Ag x ct cv).2.1 (Ag x ct cv).2.2 (Ag x (Al key x (t0 + 1) now).1 (Al key x (t0 + 1) now).2).1 (Ag x (Al key x (t0 + 1) now).1 (Al key x (t0 + 1) now).2).2.1 (Ag x (Al key x (t0 + 1) now).1 (Al key x (t0 + 1) now).2).2.2).cursor,O U (Cu key ⟨t0 + 1,t1,t2,t3,t4,t5,t6,false⟩ (DC key l t2 x) (Ag x ct cv).1 (Ag x ct cv).2.1 (Ag x ct cv).2.2 (Ag x (Al key x (t0 + 1) now).1 (Al key x (t0 + 1) now).2).1 (Ag x (Al key x (t0 + 1) now).1 (Al key x (t0 + 1) now).2).2.1 (Ag x (Al key x (t0 + 1) now).1 (Al key x (t0 + 1) now).2).2.2).read,O U (Cu key ⟨t0 + 1,t1,t2,t3,t4,t5,t6,false⟩ (DC key l t2 x) (Ag x ct cv).1 (Ag x ct cv).2.1 (Ag x ct cv).2.2 (Ag x (Al key x (t0 + 1) now).1 (Al key x (t0 + 1) now).2).1 (Ag x (Al key x (t0 + 1) now).1 (Al key x (t0 + 1) now).2).2.1 (Ag x (Al key x (t0 + 1) now).1 (Al key x (t0 + 1) now).2).2.2).written,O U (Cu key ⟨t0 + 1,t1,t2,t3,t4,t5,t6,false⟩ (DC key l t2 x) (Ag x ct cv).1 (Ag x ct cv).2.1 (Ag x ct cv).2.2 (Ag x (Al key x (t0 + 1) now).1 (Al key x (t0 + 1) now).2).1 (Ag x (Al key x (t0 + 1) now).1 (Al key x (t0 + 1) now).2).2.1 (Ag x (Al key x (t0 + 1) now).1 (Al key x (t0 + 1) now).2).2.2).nread,O U (Cu key ⟨t0 + 1,t1,t2,t3,t4,t5,t6,false⟩ (DC key l t2 x) (Ag x ct cv).1 (Ag x ct cv).2.1 (Ag x ct cv).2.2 (Ag x (Al key x (t0 + 1) now).1 (Al key x (t0 + 1) now).2).1 (Ag x (Al key x (t0 + 1) now).1 (Al key x (t0 + 1) now).2).2.1 (Ag x (Al key x (t0 + 1) now).1 (Al key x (t0 + 1) now).2).2.2).nwritten,φ (Cu key ⟨t0 + 1,t1,t2,t3,t4,t5,t6,false⟩ (DC key l t2 x) (Ag x ct cv).1 (Ag x ct cv).2.1 (Ag x ct cv).2.2 (Ag x (Al key x (t0 + 1) now).1 (Al key x (t0 + 1) now).2).1 (Ag x (Al key x (t0 + 1) now).1 (Al key x (t0 + 1) now).2).2.1 (Ag x (Al key x (t0 + 1) now).1 (Al key x (t0 + 1) now).2).2.2).failed],σ #[O U (Al key x (t0 + 1) now).1,O U (Al key x (t0 + 1) now).2],O U (Av key x ct cv),O U 0]) /\ Below w.1.size w w':=by
 have K0:=hid (show Kept w [(w.1.size + 1 + 1 + 1 + 1,118,#[O U 0,O U 0]),(w.1.size + 1 + 1 + 1,94,#[O U 0,O U 0,O U 0,O U 0,O U 0,O U 0,O U 0,φ false]),(w.1.size + 1 + 1,118,#[O U ct,O U cv]),(w.1.size + 1,94,#[O U t0,O U t1,O U t2,O U t3,O U t4,O U t5,O U t6,φ false]),(w.1.size,26,#[O U key,ψ A l.length cap])] _ from (((((Kept.refl w).put1 _ _ #[O U key,ψ A l.length cap] rfl).put1 _ _ #[O U t0,O U t1,O U t2,O U t3,O U t4,O U t5,O U t6,φ false] (by simp)).put1 _ _ #[O U ct,O U cv] (by simp)).put1 _ _ #[O U 0,O U 0,O U 0,O U 0,O U 0,O U 0,O U 0,φ false] (by simp)).put1 _ _ #[O U 0,O U 0] (by simp))
 have R:=hid (fun (u:World) (hb:Below w.1.size w u)=>Be key x A l cap u hn hcap ((hA.below hb (lr _)).more hb.size))
 have TO:=hid (fun (u:World) (hb:Below w.1.size w u)=>AX key (Am key l x) A l cap t0 t1 t2 t3 t4 t5 t6 false u hn ((hA.below hb (lr _)).more hb.size))
 have CO:=hid (fun (u:World)=>AQ ct cv u)
 rw [Co ht] at TO
 rw [decide_eq_true hc] at CO
 have hd:decide (Am key l x < 0) = false:=decide_eq_false (by omega)
 have htm:0 <= t0 /\ t0 <= 100000:=ht.2.2.1
 have VI:=hid (fun u=>FK key x ct cv u)
 have CC:=hid (fun u=>EO key x (t0 + 1) now u)
 have BH:=hid (fun (u:World) (hb:Below w.1.size w u)=>Jf key x A l cap (t0 + 1) t1 t2 t3 t4 t5 t6 false u hn hcap ((hA.below hb (lr _)).more hb.size) hxx)
 clear hA hxx hn
 generalize Am key l x = r at R hd TO
 clear hr ht hc
 generalize (Al key x (t0 + 1) now).1 = c1 at CC |-
 generalize (Al key x (t0 + 1) now).2 = c2 at CC |-
 generalize DC key l t2 x = nx at BH |-
 have TI1:=hid (fun u=>CU x ct cv u)
 have TI2:=hid (fun u=>CU x c1 c2 u)
 have LS:=hid (fun u=>Ns nx key A l.length cap (t0 + 1) t1 t2 t3 t4 t5 t6 false (Ag x ct cv).1 (Ag x ct cv).2.1 (Ag x ct cv).2.2 (Ag x c1 c2).1 (Ag x c1 c2).2.1 (Ag x c1 c2).2.2 u)
 generalize Cu key ⟨t0 + 1,t1,t2,t3,t4,t5,t6,false⟩ nx (Ag x ct cv).1 (Ag x ct cv).2.1 (Ag x ct cv).2.2 (Ag x c1 c2).1 (Ag x c1 c2).2.1 (Ag x c1 c2).2.2 = TS at LS |-
 generalize Ag x ct cv = q1 at TI1 LS
 generalize Ag x c1 c2 = q2 at TI2 LS
 obtain ⟨q11,q12,q13⟩:=q1
 obtain ⟨q21,q22,q23⟩:=q2
 simp only at TI1 TI2 LS
 by_cases hv3:value = -1
 have z_1:=trivial;rotate_left;have z_2:=trivial;rotate_left
 all_goals
  first
   | guard_hyp z_1
     subst hv3
     rw [if_pos rfl] at hnow
     rw [<- hnow] at VI |-
     clear hv hnow
   | have hv1:(value == -1) = false:=by simpa using hv3
     have hv2:(value != -1) = true:=by simpa using hv3
     have LV:=hid (fun u=>DI value u (by rcases hv with h | h;exact absurd h hv3;exact h))
     rw [if_neg hv3] at hnow
     subst hnow
     generalize Av key x ct cv = rd at VI |-
     clear hv
  go_enter func129,ntmps129
  go_wp2_with fail
  refine (R.out _ K0.out.1).mono ?_;rintro e wz ⟨rfl,b1⟩
  have hz:=K0.out.below b1
  clear b1 R K0
  obtain ⟨X0,Y0,X1,Y1,X2,Y2,X3,Y3,X4,Y4,-⟩:=hz.rd
  go_wp2_with fail
  refine (TO.out _ hz.1).mono ?_;rintro e wy ⟨rfl,b1⟩
  have hy:=hz.below b1
  clear b1 TO hz X0 Y0 X1 Y1 X2 Y2 X3 Y3 X4 Y4
  obtain ⟨X0,Y0,X1,Y1,X2,Y2,X3,Y3,X4,Y4,-⟩:=hy.rd
  go_wp2_with fail
  refine (CO.out _).mono ?_;rintro e wx ⟨rfl,b1⟩
  have hx:=hy.below b1
  clear b1 CO hy X0 Y0 X1 Y1 X2 Y2 X3 Y3 X4 Y4
  obtain ⟨X0,Y0,X1,Y1,X2,Y2,X3,Y3,X4,Y4,-⟩:=hx.rd
  go_wp2_with fail
  first
   | guard_hyp z_1
   | refine (LV.out _).mono ?_;rintro e w' ⟨rfl,rfl⟩
     go_wp2_with fail
  refine (VI.out _).mono ?_;rintro e wr ⟨rfl,b1⟩
  have hr:=hx.below b1
  clear b1 VI hx X0 Y0 X1 Y1 X2 Y2 X3 Y3 X4 Y4
  obtain ⟨X0,Y0,X1,Y1,X2,Y2,X3,Y3,X4,Y4,-⟩:=hr.rd
  go_upto_region 15 with fail
  have hq:Kept w [(w.1.size + 1 + 1 + 1 + 1,118,#[O U 0,O U 0]),(w.1.size + 1 + 1 + 1,94,#[O U 0,O U 0,O U 0,O U 0,O U 0,O U 0,O U 0,φ false]),(w.1.size + 1 + 1,118,#[O U ct,O U cv]),(w.1.size + 1,94,#[O U (t0 + 1),O U t1,O U t2,O U t3,O U t4,O U t5,O U t6,φ false]),(w.1.size,26,#[O U key,ψ A l.length cap])] _:=hr.put (k:=3) rfl (by unfold Apart;simp;omega) (Ai (Aj wr (some (w.1.size + 1))) 0 (O U (t0 + 1))) ((hr.at_ (p:=w.1.size + 1) (t:=94) (cs:=#[O U t0,O U t1,O U t2,O U t3,O U t4,O U t5,O U t6,φ false]) (by simp)).set_ 0 _)
  clear hr X0 Y0 X1 Y1 X2 Y2 X3 Y3 X4 Y4
  generalize World.setCell _ _ _ = wq at hq |-
  obtain ⟨X0,Y0,X1,Y1,X2,Y2,X3,Y3,X4,Y4,-⟩:=hq.rd
  go_wp2_with fail
  refine (CC.out _).mono ?_;rintro e ws ⟨rfl,b1⟩
  have hs:=hq.below b1
  have hlt:w.1.size + 1 + 1 + 1 + 1 < ws.1.size:=hs.lt (x:=(w.1.size + 1 + 1 + 1 + 1,118,#[O U 0,O U 0])) (by simp)
  have hn:=hs.put1 ws.1.size 118 #[O U c1,O U c2] rfl
  clear b1 CC hq hs X0 Y0 X1 Y1 X2 Y2 X3 Y3 X4 Y4
  go_upto_region 16 with fail
  have hst:∀ x ∈ ([(15,w.1.size + 1 + 1 + 1,94,#[O U TS.clock,O U TS.epoch,O U TS.cursor,O U TS.read,O U TS.written,O U TS.nread,O U TS.nwritten,φ TS.failed]),(16,w.1.size + 1 + 1 + 1 + 1,118,#[O U c1,O U c2])]:List Res),w.1.size <= x.2.1 /\ (∀ y ∈ ([(ws.1.size,118,#[O U c1,O U c2]),(w.1.size + 1 + 1,118,#[O U ct,O U cv]),(w.1.size + 1,94,#[O U (t0 + 1),O U t1,O U t2,O U t3,O U t4,O U t5,O U t6,φ false]),(w.1.size,26,#[O U key,ψ A l.length cap])]:List Box),y.1 ≠ x.2.1) /\ ∃ z,Aa (ws.alloc (.cells #[O U c1,O U c2] 118)) x.2.1 x.2.2.1 z /\ z.size = x.2.2.2.size:=by
   intro y hy
   simp only [List.mem_cons,List.not_mem_nil,or_false] at hy
   rcases hy with rfl | rfl
   ·exact ⟨by simp only [];omega,by intro y hy;simp at hy;rcases hy with rfl | rfl | rfl | rfl <;> simp <;> omega,_,hn.at_ (t:=94) (cs:=#[O U 0,O U 0,O U 0,O U 0,O U 0,O U 0,O U 0,φ false]) (by simp),rfl⟩
   ·exact ⟨by simp only [];omega,by intro y hy;simp at hy;rcases hy with rfl | rfl | rfl | rfl <;> simp <;> omega,_,hn.at_ (t:=118) (cs:=#[O U 0,O U 0]) (by simp),rfl⟩
  have hn0:Kept w [(ws.1.size,118,#[O U c1,O U c2]),(w.1.size + 1 + 1,118,#[O U ct,O U cv]),(w.1.size + 1,94,#[O U (t0 + 1),O U t1,O U t2,O U t3,O U t4,O U t5,O U t6,φ false]),(w.1.size,26,#[O U key,ψ A l.length cap])] _:=hn.sub (by intro y hy;simp at hy |-;rcases hy with rfl | rfl | rfl | rfl <;> simp)
  refine Ao [false,false,false,false,false,true,false,false,true,false,false,true,true,false,false,true,true,false,false] (ShV [(5,φ nx),(8,σ #[O U q11,O U q12,O U q13]),(11,σ #[O U q21,O U q22,O U q23]),(12,σ #[O U TS.clock,O U TS.epoch,O U TS.cursor,O U TS.read,O U TS.written,O U TS.nread,O U TS.nwritten,φ TS.failed])]) (fun D _ u=>ResC w [(ws.1.size,118,#[O U c1,O U c2]),(w.1.size + 1 + 1,118,#[O U ct,O U cv]),(w.1.size + 1,94,#[O U (t0 + 1),O U t1,O U t2,O U t3,O U t4,O U t5,O U t6,φ false]),(w.1.size,26,#[O U key,ψ A l.length cap])] [(15,w.1.size + 1 + 1 + 1,94,#[O U TS.clock,O U TS.epoch,O U TS.cursor,O U TS.read,O U TS.written,O U TS.nread,O U TS.nwritten,φ TS.failed]),(16,w.1.size + 1 + 1 + 1 + 1,118,#[O U c1,O U c2])] D u) (by kernel_rfl) (by kernel_rfl) (fun γ=>by kernel_rfl) (fun D γ γ' w _ h=>h) (ShV.inh _) (fun γ=>ResC.start hn0 hst) (fun γ hγ=>?_)
  have g5:γ 5 = φ nx:=hγ 5 rfl
  have g8:γ 8 = σ #[O U q11,O U q12,O U q13]:=hγ 8 rfl
  have g11:γ 11 = σ #[O U q21,O U q22,O U q23]:=hγ 11 rfl
  have g12:γ 12 = σ #[O U TS.clock,O U TS.epoch,O U TS.cursor,O U TS.read,O U TS.written,O U TS.nread,O U TS.nwritten,φ TS.failed]:=hγ 12 rfl
  have g15:γ 15 = undef:=hγ 15 rfl
  have g16:γ 16 = undef:=hγ 16 rfl
  apply Exists.intro
  refine ⟨fun D=>?_,?_,?_⟩
  ·simp only [AP,cond_true,cond_false,Nat.reduceAdd,g5,g8,g11,g12,g15,g16]
   iterate 19 (first
    | go_big_quiet_skip
    | (go_big_quiet_want
       go_big_quiet_op
       first
        | go_big_quiet_on
        | (apply Exists.intro
           refine ⟨fun u hu=>?_,?_⟩
           ·first
              | with_reducible rfl
              | (obtain ⟨X0,Y0,X1,Y1,X2,Y2,X3,Y3,-⟩:=hu.1.rd;go_simp;first | done | with_reducible rfl)
           go_big_quiet_on)))
   exact wpQuiet_nil rfl
  ·simp only [AY,Nat.reduceAdd]
   refine ⟨fun D u hD hd hu=>?_,fun D u hD hd hu=>?_,fun D u hD hd hu=>?_,fun D u hD hd hu=>?_,fun D u hD hd hu=>?_,fun D u hD hd hu=>?_,trivial⟩
   ·exact As ((BH.out u hu.1.1).mono fun e w' ⟨he,hb⟩=>⟨_,he,rfl,hu.below hb 5 (by simp)⟩) rfl rfl rfl rfl (by kernel_rfl)
   ·exact As ((TI1.out u).mono fun e w' ⟨he,hb⟩=>⟨_,he,rfl,hu.below hb 8 (by simp)⟩) rfl rfl rfl rfl (by kernel_rfl)
   ·exact As ((TI2.out u).mono fun e w' ⟨he,hb⟩=>⟨_,he,rfl,hu.below hb 11 (by simp)⟩) rfl rfl rfl rfl (by kernel_rfl)
   ·exact As ((LS.out u).mono fun e w' ⟨he,hb⟩=>⟨_,he,rfl,hu.below hb 12 (by simp)⟩) rfl rfl rfl rfl (by kernel_rfl)
   ·obtain ⟨z,hz,hzs⟩:=hu.at_ (k:=15) (p:=w.1.size + 1 + 1 + 1) (t:=94) (V:=#[O U TS.clock,O U TS.epoch,O U TS.cursor,O U TS.read,O U TS.written,O U TS.nread,O U TS.nwritten,φ TS.failed]) (by simp)
    exact AI hz rfl rfl rfl (by kernel_rfl) hzs (by simp [Value.oneCell']) (fun w' hc hg=>⟨rfl,hu.stored (by simp) (by simp) hg hc⟩)
   ·obtain ⟨z,hz,hzs⟩:=hu.at_ (k:=16) (p:=w.1.size + 1 + 1 + 1 + 1) (t:=118) (V:=#[O U c1,O U c2]) (by simp)
    exact AI hz rfl rfl rfl (by kernel_rfl) hzs (by simp [Value.oneCell']) (fun w' hc hg=>⟨rfl,hu.stored (by simp) (by simp) hg hc⟩)
  ·intro D u hD hu
   have hf:=hu.done (by intro y hy;simp only [List.mem_cons,List.not_mem_nil,or_false] at hy;rcases hy with rfl | rfl;exact hD 15 (by simp) rfl;exact hD 16 (by simp) rfl)
   clear hu hD
   obtain ⟨X0,Y0,X1,Y1,-⟩:=hf.rd
   go_wp2_with fail
   first
    | guard_hyp z_1
      exact bodyPost_ret (v:=(.tuple #[σ #[O U TS.clock,O U TS.epoch,O U TS.cursor,O U TS.read,O U TS.written,O U TS.nread,O U TS.nwritten,φ TS.failed],σ #[O U c1,O U c2],O U now,O U 0])) (by simp [results,results129,go_sem,X0,X1]) rfl ⟨rfl,hf.1⟩
    | exact bodyPost_ret (v:=(.tuple #[σ #[O U TS.clock,O U TS.epoch,O U TS.cursor,O U TS.read,O U TS.written,O U TS.nread,O U TS.nwritten,φ TS.failed],σ #[O U c1,O U c2],O U rd,O U 0])) (by simp [results,results129,go_sem,X0,X1]) rfl ⟨rfl,hf.1⟩

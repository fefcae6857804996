import Derived.Test.YteoijmejhdocdaaGreatDoorV15
import Derived.Test.YteoijmejhdocdaaGreatDoorV17
namespace Go.Proofs.YteoijmejhdocdaaGreatDoor.Mx
open Go.ChangeShapes Go.WideShapes Go.ChangeAt Go.RowKit
set_option linter.unusedVariables false
open Go.Lib (hid)
open Go.Proofs.Tryz
set_option maxRecDepth 20000
set_option maxHeartbeats 64000000
open Value renaming int → O, slice → ψ, bool → φ, agg → σ
open IntKind renaming i64 → U
open Ending renaming returned → τ
def AJ (t:Tru):Tru × Int:=
 if t.read = t.written then (⟨t.clock,t.epoch + 1,0,t.nread,t.nwritten,0,0,t.failed⟩,5) else (⟨t.clock,t.epoch,0,t.read,t.written,0,0,true⟩,4)
def Qd:Tru:=⟨0,0,0,0,0,0,0,false⟩
def MO (key:Int) (l:List Int) (x:Int) (t:Tru) (ct cv:Int):Prop:=Bk key l x t /\ AO ct cv
noncomputable def Bo (key:Int) (l:List Int) (x:Int) (t:Tru) (ct cv:Int):Tru:=
 ⟨t.clock + 1,t.epoch,t.cursor + 1,Bf t.read (Di key (Ag (Ad key l x + t.cursor) ct cv).1 (Ag (Ad key l x + t.cursor) ct cv).2.1 (Ag (Ad key l x + t.cursor) ct cv).2.2),t.written,t.nread,
  Bf t.nwritten (Di key (Ag (Ad key l x + t.cursor) (Al key (Ad key l x + t.cursor) (t.clock + 1) (Av key (Ad key l x + t.cursor) ct cv)).1 (Al key (Ad key l x + t.cursor) (t.clock + 1) (Av key (Ad key l x + t.cursor) ct cv)).2).1
   (Ag (Ad key l x + t.cursor) (Al key (Ad key l x + t.cursor) (t.clock + 1) (Av key (Ad key l x + t.cursor) ct cv)).1 (Al key (Ad key l x + t.cursor) (t.clock + 1) (Av key (Ad key l x + t.cursor) ct cv)).2).2.1
   (Ag (Ad key l x + t.cursor) (Al key (Ad key l x + t.cursor) (t.clock + 1) (Av key (Ad key l x + t.cursor) ct cv)).1 (Al key (Ad key l x + t.cursor) (t.clock + 1) (Av key (Ad key l x + t.cursor) ct cv)).2).2.2),t.failed⟩
theorem Kg (t0 t1 t2 t3 t4 t5 t6:Int) (t7:Bool) (w:World) (h1:0 <= t1) (h1':t1 <= 1000):
    Calls prog 208 #[σ #[O U t0,O U t1,O U t2,O U t3,O U t4,O U t5,O U t6,φ t7]] w fun e w'=>e = τ (.tuple #[σ #[O U (AJ ⟨t0,t1,t2,t3,t4,t5,t6,t7⟩).1.clock,O U (AJ ⟨t0,t1,t2,t3,t4,t5,t6,t7⟩).1.epoch,O U (AJ ⟨t0,t1,t2,t3,t4,t5,t6,t7⟩).1.cursor,O U (AJ ⟨t0,t1,t2,t3,t4,t5,t6,t7⟩).1.read,O U (AJ ⟨t0,t1,t2,t3,t4,t5,t6,t7⟩).1.written,O U (AJ ⟨t0,t1,t2,t3,t4,t5,t6,t7⟩).1.nread,O U (AJ ⟨t0,t1,t2,t3,t4,t5,t6,t7⟩).1.nwritten,φ (AJ ⟨t0,t1,t2,t3,t4,t5,t6,t7⟩).1.failed],O U (AJ ⟨t0,t1,t2,t3,t4,t5,t6,t7⟩).2]) /\ Below w.1.size w w':=by
 by_cases h:t3 = t4
 ·have e:AJ ⟨t0,t1,t2,t3,t4,t5,t6,t7⟩ = (⟨t0,t1 + 1,0,t5,t6,0,0,t7⟩,5):=by unfold AJ;rw [if_pos h]
  rw [e]
  have hb:(t3 == t4) = true:=by simpa using h
  clear h e
  go_enter func208,ntmps208
  go_wp2_with fail
  refine bodyPost_ret (v:=.tuple #[σ #[O U t0,O U (t1 + 1),O U 0,O U t5,O U t6,O U 0,O U 0,φ t7],O U 5]) (by simp [results,results208,go_sem]) rfl ⟨rfl,((Below.refl _ _).alloc (lr _) _).alloc (by simp) _⟩
 ·have e:AJ ⟨t0,t1,t2,t3,t4,t5,t6,t7⟩ = (⟨t0,t1,0,t3,t4,0,0,true⟩,4):=by unfold AJ;rw [if_neg h]
  rw [e]
  have hb:(t3 == t4) = false:=by simpa using h
  clear h e
  go_enter func208,ntmps208
  go_wp2_with fail
  refine bodyPost_ret (v:=.tuple #[σ #[O U t0,O U t1,O U 0,O U t3,O U t4,O U 0,O U 0,φ true],O U 4]) (by simp [results,results208,go_sem]) rfl ⟨rfl,((Below.refl _ _).alloc (lr _) _).alloc (by simp) _⟩
theorem JX (key x ct cv:Int) (A:Option Addr) (l:List Int) (cap:Nat) (t0 t1 t2 t3 t4 t5 t6:Int) (t7:Bool) (w:World) (hn:l.length <= maxLen) (hcap:l.length <= cap) (hA:Ints w U w.1.size A l) (h:¬ MO key l x ⟨t0,t1,t2,t3,t4,t5,t6,t7⟩ ct cv):
    Calls prog 133 #[σ #[O U key,ψ A l.length cap],O U x,σ #[O U t0,O U t1,O U t2,O U t3,O U t4,O U t5,O U t6,φ t7],σ #[O U ct,O U cv]] w fun e w'=>e = τ (.tuple #[σ #[O U 0,O U 0,O U 0,O U 0,O U 0,O U 0,O U 0,φ false],σ #[O U 0,O U 0],O U 1]) /\ Below w.1.size w w':=by
 have K0:=hid (show Kept w [(w.1.size + 1 + 1 + 1 + 1,118,#[O U 0,O U 0]),(w.1.size + 1 + 1 + 1,94,#[O U 0,O U 0,O U 0,O U 0,O U 0,O U 0,O U 0,φ false]),(w.1.size + 1 + 1,118,#[O U ct,O U cv]),(w.1.size + 1,94,#[O U t0,O U t1,O U t2,O U t3,O U t4,O U t5,O U t6,φ t7]),(w.1.size,26,#[O U key,ψ A l.length cap])] _ from ((((((Kept.refl w).put1 _ _ #[O U key,ψ A l.length cap] rfl).put1 _ _ #[O U t0,O U t1,O U t2,O U t3,O U t4,O U t5,O U t6,φ t7] (by simp)).put1 _ _ #[O U ct,O U cv] (by simp)).put1 _ _ #[O U 0,O U 0,O U 0,O U 0,O U 0,O U 0,O U 0,φ false] (by simp)).put1 _ _ #[O U 0,O U 0] (by simp)))
 have FI:=hid (fun (u:World) (hb:Below w.1.size w u)=>CI key x A l cap u hn hcap ((hA.below hb (lr _)).more hb.size))
 have TO:=hid (fun (u:World) (hb:Below w.1.size w u)=>AX key x A l cap t0 t1 t2 t3 t4 t5 t6 t7 u hn ((hA.below hb (lr _)).more hb.size))
 have CO:=hid (fun (u:World)=>AQ ct cv u)
 clear hA hn
 unfold MO at h
 by_cases hf:0 <= Ad key l x
 ·have hd:decide (Ad key l x < 0) = false:=decide_eq_false (by omega)
  by_cases ht:Bk key l x ⟨t0,t1,t2,t3,t4,t5,t6,t7⟩
  have z_1:=trivial;rotate_left;have z_2:=trivial;rotate_left
  all_goals
   first
    | guard_hyp z_1
      rw [Co ht] at TO
      rw [decide_eq_false (show ¬ AO ct cv from fun hc=>h ⟨ht,hc⟩)] at CO
      clear h ht hf
    | rw [CD ht] at TO
      clear h ht hf CO
   generalize Ad key l x = f at FI hd
   go_enter func133,ntmps133
   go_wp2_with fail
   refine (FI.out _ K0.out.1).mono ?_;rintro e uz1 ⟨rfl,bz2⟩
   have hz3:=K0.out.below bz2
   clear bz2
   obtain ⟨X0,Y0,X1,Y1,X2,Y2,X3,Y3,X4,Y4,-⟩:=hz3.rd
   go_wp2_with fail
   refine (TO.out _ hz3.1).mono ?_;rintro e uz4 ⟨rfl,bz5⟩
   have hz6:=hz3.below bz5
   clear bz5 hz3 X0 Y0 X1 Y1 X2 Y2 X3 Y3 X4 Y4
   obtain ⟨X0,Y0,X1,Y1,X2,Y2,X3,Y3,X4,Y4,-⟩:=hz6.rd
   first
    | guard_hyp z_1
      go_wp2_with fail
      refine (CO.out _).mono ?_;rintro e uz7 ⟨rfl,bz8⟩
      have hz9:=hz6.below bz8
      clear bz8 hz6 X0 Y0 X1 Y1 X2 Y2 X3 Y3 X4 Y4
      obtain ⟨X0,Y0,X1,Y1,X2,Y2,X3,Y3,X4,Y4,-⟩:=hz9.rd
    | skip
   go_upto_region 3 with fail
   go_wp2_with fail
   first
    | guard_hyp z_1
      obtain ⟨w9,e9,⟨d0,d1,d2,d3,d4,d5,d6,d7,d8,d9⟩,hb⟩:=Ec (x0:=O U 0) (x1:=O U 0) (x2:=O U 0) (x3:=O U 0) (x4:=O U 0) (x5:=O U 0) (x6:=O U 0) (x7:=φ false) (y0:=O U 0) (y1:=O U 0) (hz9.at_ (p:=w.1.size + 1 + 1 + 1) (t:=94) (cs:=#[O U 0,O U 0,O U 0,O U 0,O U 0,O U 0,O U 0,φ false]) (by simp)) (hz9.at_ (p:=w.1.size + 1 + 1 + 1 + 1) (t:=118) (cs:=#[O U 0,O U 0]) (by simp)) (by omega) hz9.1 (by omega) (by omega)
    | obtain ⟨w9,e9,⟨d0,d1,d2,d3,d4,d5,d6,d7,d8,d9⟩,hb⟩:=Ec (x0:=O U 0) (x1:=O U 0) (x2:=O U 0) (x3:=O U 0) (x4:=O U 0) (x5:=O U 0) (x6:=O U 0) (x7:=φ false) (y0:=O U 0) (y1:=O U 0) (hz6.at_ (p:=w.1.size + 1 + 1 + 1) (t:=94) (cs:=#[O U 0,O U 0,O U 0,O U 0,O U 0,O U 0,O U 0,φ false]) (by simp)) (hz6.at_ (p:=w.1.size + 1 + 1 + 1 + 1) (t:=118) (cs:=#[O U 0,O U 0]) (by simp)) (by omega) hz6.1 (by omega) (by omega)
   rw [e9]
   exact bodyPost_ret (v:=(.tuple #[σ #[O U 0,O U 0,O U 0,O U 0,O U 0,O U 0,O U 0,φ false],σ #[O U 0,O U 0],O U 1])) (by simp [results,results133,go_sem,d0,d1,d2,d3,d4,d5,d6,d7,d8,d9]) rfl ⟨rfl,hb⟩
 ·have hd:decide (Ad key l x < 0) = true:=decide_eq_true (by omega)
  clear h hf CO TO
  generalize Ad key l x = f at FI hd
  go_enter func133,ntmps133
  go_wp2_with fail
  refine (FI.out _ K0.out.1).mono ?_;rintro e uz1 ⟨rfl,bz2⟩
  have hz3:=K0.out.below bz2
  clear bz2
  obtain ⟨X0,Y0,X1,Y1,X2,Y2,X3,Y3,X4,Y4,-⟩:=hz3.rd
  go_upto_region 3 with fail
  go_wp2_with fail
  obtain ⟨w9,e9,⟨d0,d1,d2,d3,d4,d5,d6,d7,d8,d9⟩,hb⟩:=Ec (x0:=O U 0) (x1:=O U 0) (x2:=O U 0) (x3:=O U 0) (x4:=O U 0) (x5:=O U 0) (x6:=O U 0) (x7:=φ false) (y0:=O U 0) (y1:=O U 0) (hz3.at_ (p:=w.1.size + 1 + 1 + 1) (t:=94) (cs:=#[O U 0,O U 0,O U 0,O U 0,O U 0,O U 0,O U 0,φ false]) (by simp)) (hz3.at_ (p:=w.1.size + 1 + 1 + 1 + 1) (t:=118) (cs:=#[O U 0,O U 0]) (by simp)) (by omega) hz3.1 (by omega) (by omega)
  rw [e9]
  exact bodyPost_ret (v:=(.tuple #[σ #[O U 0,O U 0,O U 0,O U 0,O U 0,O U 0,O U 0,φ false],σ #[O U 0,O U 0],O U 1])) (by simp [results,results133,go_sem,d0,d1,d2,d3,d4,d5,d6,d7,d8,d9]) rfl ⟨rfl,hb⟩
theorem Iq (key x ct cv:Int) (A:Option Addr) (l:List Int) (cap:Nat) (t0 t1 t2 t3 t4 t5 t6:Int) (w:World) (hn:l.length <= maxLen) (hcap:l.length <= cap) (hA:Ints w U w.1.size A l) (ht:Bk key l x ⟨t0,t1,t2,t3,t4,t5,t6,false⟩) (hc:AO ct cv) (hs:100000 <= t0 \/ 1000 <= t1):
    Calls prog 133 #[σ #[O U key,ψ A l.length cap],O U x,σ #[O U t0,O U t1,O U t2,O U t3,O U t4,O U t5,O U t6,φ false],σ #[O U ct,O U cv]] w fun e w'=>e = τ (.tuple #[σ #[O U t0,O U t1,O U t2,O U t3,O U t4,O U t5,O U t6,φ false],σ #[O U ct,O U cv],O U 3]) /\ Below w.1.size w w':=by
 have K0:=hid (show Kept w [(w.1.size + 1 + 1 + 1 + 1,118,#[O U 0,O U 0]),(w.1.size + 1 + 1 + 1,94,#[O U 0,O U 0,O U 0,O U 0,O U 0,O U 0,O U 0,φ false]),(w.1.size + 1 + 1,118,#[O U ct,O U cv]),(w.1.size + 1,94,#[O U t0,O U t1,O U t2,O U t3,O U t4,O U t5,O U t6,φ false]),(w.1.size,26,#[O U key,ψ A l.length cap])] _ from ((((((Kept.refl w).put1 _ _ #[O U key,ψ A l.length cap] rfl).put1 _ _ #[O U t0,O U t1,O U t2,O U t3,O U t4,O U t5,O U t6,φ false] (by simp)).put1 _ _ #[O U ct,O U cv] (by simp)).put1 _ _ #[O U 0,O U 0,O U 0,O U 0,O U 0,O U 0,O U 0,φ false] (by simp)).put1 _ _ #[O U 0,O U 0] (by simp)))
 have FI:=hid (fun (u:World) (hb:Below w.1.size w u)=>CI key x A l cap u hn hcap ((hA.below hb (lr _)).more hb.size))
 have TO:=hid (fun (u:World) (hb:Below w.1.size w u)=>AX key x A l cap t0 t1 t2 t3 t4 t5 t6 false u hn ((hA.below hb (lr _)).more hb.size))
 have CO:=hid (fun (u:World)=>AQ ct cv u)
 have hf:0 <= Ad key l x /\ Ad key l x <= 32:=by
  obtain ⟨r,hr⟩:∃ r:Nat,x = r:=⟨x.toNat,by have:=ht.2.1;omega⟩
  have hl:r < l.length:=by have:=ht.2.1;omega
  rw [hr,Cs ht.1 hl]
  have h1:=Dl ht.1.2.2.1 (show r <= l.length by omega)
  have h2:=ht.1.2.1.2
  omega
 have hd:decide (Ad key l x < 0) = false:=decide_eq_false (by omega)
 rw [Co ht] at TO
 rw [decide_eq_true hc] at CO
 clear ht hc hf hA hn
 generalize Ad key l x = f at FI hd
 by_cases h0:100000 <= t0
 have z_1:=trivial;rotate_left;have z_2:=trivial;rotate_left
 all_goals
  first
   | guard_hyp z_1
     have b0:decide (100000 <= t0) = true:=decide_eq_true h0
   | have b0:decide (100000 <= t0) = false:=decide_eq_false h0
     have b1:decide (1000 <= t1) = true:=decide_eq_true (by omega)
  go_enter func133,ntmps133
  go_wp2_with fail
  refine (FI.out _ K0.out.1).mono ?_;rintro e uz1 ⟨rfl,bz2⟩
  have hz3:=K0.out.below bz2
  clear bz2
  obtain ⟨X0,Y0,X1,Y1,X2,Y2,X3,Y3,X4,Y4,-⟩:=hz3.rd
  go_wp2_with fail
  refine (TO.out _ hz3.1).mono ?_;rintro e uz4 ⟨rfl,bz5⟩
  have hz6:=hz3.below bz5
  clear bz5 hz3 X0 Y0 X1 Y1 X2 Y2 X3 Y3 X4 Y4
  obtain ⟨X0,Y0,X1,Y1,X2,Y2,X3,Y3,X4,Y4,-⟩:=hz6.rd
  go_wp2_with fail
  refine (CO.out _).mono ?_;rintro e uz7 ⟨rfl,bz8⟩
  have hz9:=hz6.below bz8
  clear bz8 hz6 X0 Y0 X1 Y1 X2 Y2 X3 Y3 X4 Y4
  obtain ⟨X0,Y0,X1,Y1,X2,Y2,X3,Y3,X4,Y4,-⟩:=hz9.rd
  go_upto_region 7 with fail
  have hst:∀ x ∈ ([(2,w.1.size + 1 + 1 + 1,94,#[O U t0,O U t1,O U t2,O U t3,O U t4,O U t5,O U t6,φ false]),(3,w.1.size + 1 + 1 + 1 + 1,118,#[O U ct,O U cv])]:List Res),w.1.size <= x.2.1 /\ (∀ y ∈ ([(w.1.size + 1 + 1,118,#[O U ct,O U cv]),(w.1.size + 1,94,#[O U t0,O U t1,O U t2,O U t3,O U t4,O U t5,O U t6,φ false]),(w.1.size,26,#[O U key,ψ A l.length cap])]:List Box),y.1 ≠ x.2.1) /\ ∃ z,Aa uz7 x.2.1 x.2.2.1 z /\ z.size = x.2.2.2.size:=by
   intro y hy
   simp only [List.mem_cons,List.not_mem_nil,or_false] at hy
   rcases hy with rfl | rfl
   ·exact ⟨by simp only [] <;> omega,by intro y hy;simp at hy;rcases hy with rfl | rfl | rfl <;> simp <;> omega,_,hz9.at_ (t:=94) (cs:=#[O U 0,O U 0,O U 0,O U 0,O U 0,O U 0,O U 0,φ false]) (by simp),rfl⟩
   ·exact ⟨by simp only [] <;> omega,by intro y hy;simp at hy;rcases hy with rfl | rfl | rfl <;> simp <;> omega,_,hz9.at_ (t:=118) (cs:=#[O U 0,O U 0]) (by simp),rfl⟩
  have hn0:Kept w [(w.1.size + 1 + 1,118,#[O U ct,O U cv]),(w.1.size + 1,94,#[O U t0,O U t1,O U t2,O U t3,O U t4,O U t5,O U t6,φ false]),(w.1.size,26,#[O U key,ψ A l.length cap])] _:=hz9.sub (by intro y hy;simp at hy |-;rcases hy with rfl | rfl | rfl <;> simp)
  refine Ao [false,false,true,true,false] (ShV []) (fun D _ u=>ResC w [(w.1.size + 1 + 1,118,#[O U ct,O U cv]),(w.1.size + 1,94,#[O U t0,O U t1,O U t2,O U t3,O U t4,O U t5,O U t6,φ false]),(w.1.size,26,#[O U key,ψ A l.length cap])] [(2,w.1.size + 1 + 1 + 1,94,#[O U t0,O U t1,O U t2,O U t3,O U t4,O U t5,O U t6,φ false]),(3,w.1.size + 1 + 1 + 1 + 1,118,#[O U ct,O U cv])] D u) (by kernel_rfl) (by kernel_rfl) (fun γ=>by kernel_rfl) (fun D γ γ' w _ h=>h) (ShV.inh _) (fun γ=>ResC.start hn0 hst) (fun γ hγ=>?_)
  clear hst hn0
  have g2:γ 2 = undef:=hγ 2 rfl
  have g3:γ 3 = undef:=hγ 3 rfl
  clear hz9 X0 Y0 X1 Y1 X2 Y2 X3 Y3 X4 Y4
  apply Exists.intro
  refine ⟨fun D=>?_,?_,?_⟩
  ·simp only [AP,cond_true,cond_false,Nat.reduceAdd,g2,g3]
   iterate 5 (first
    | go_big_quiet_skip
    | (go_big_quiet_want
       go_big_quiet_op
       first
        | go_big_quiet_on
        | (apply Exists.intro
           refine ⟨fun u hu=>?_,?_⟩
           ·first
              | with_reducible rfl
              | (obtain ⟨X0,Y0,X1,Y1,X2,Y2,-⟩:=hu.1.rd;go_simp;first | done | with_reducible rfl)
           go_big_quiet_on)))
   exact wpQuiet_nil rfl
  ·simp only [AY,Nat.reduceAdd]
   refine ⟨fun D u hD hd hu=>?_,fun D u hD hd hu=>?_,trivial⟩
   ·obtain ⟨z,hz,hzs⟩:=hu.at_ (k:=2) (p:=w.1.size + 1 + 1 + 1) (t:=94) (V:=#[O U t0,O U t1,O U t2,O U t3,O U t4,O U t5,O U t6,φ false]) (by simp)
    exact AI hz rfl rfl rfl (by kernel_rfl) hzs (by simp [Value.oneCell']) (fun w' hc hg=>⟨rfl,hu.stored (by simp) (by simp) hg hc⟩)
   ·obtain ⟨z,hz,hzs⟩:=hu.at_ (k:=3) (p:=w.1.size + 1 + 1 + 1 + 1) (t:=118) (V:=#[O U ct,O U cv]) (by simp)
    exact AI hz rfl rfl rfl (by kernel_rfl) hzs (by simp [Value.oneCell']) (fun w' hc hg=>⟨rfl,hu.stored (by simp) (by simp) hg hc⟩)
  ·intro D uf hD hu
   have hf:=hu.done (by intro y hy;simp only [List.mem_cons,List.not_mem_nil,or_false] at hy;rcases hy with rfl | rfl;exact hD 2 (by simp) rfl;exact hD 3 (by simp) rfl)
   clear hu hD
   obtain ⟨X0,Y0,X1,Y1,X2,Y2,X3,Y3,X4,Y4,-⟩:=hf.rd
   go_wp2_with fail
   exact bodyPost_ret (v:=(.tuple #[σ #[O U t0,O U t1,O U t2,O U t3,O U t4,O U t5,O U t6,φ false],σ #[O U ct,O U cv],O U 3])) (by simp [results,results133,go_sem,X0,X1]) rfl ⟨rfl,hf.1⟩
theorem Dk:(∀ (key x ct cv:Int) (A:Option Addr) (l:List Int) (cap:Nat) (t0 t1 t2 t3 t4 t5 t6:Int) (w:World) (hn:l.length <= maxLen) (hcap:l.length <= cap) (hA:Ints w U w.1.size A l) (ht:Bk key l x ⟨t0,t1,t2,t3,t4,t5,t6,true⟩) (hc:AO ct cv),Calls prog 133 #[σ #[O U key,ψ A l.length cap],O U x,σ #[O U t0,O U t1,O U t2,O U t3,O U t4,O U t5,O U t6,φ true],σ #[O U ct,O U cv]] w fun e w'=>e = τ (.tuple #[σ #[O U t0,O U t1,O U t2,O U t3,O U t4,O U t5,O U t6,φ true],σ #[O U ct,O U cv],O U 2]) /\ Below w.1.size w w') /\
 (∀ (key x ct cv:Int) (A:Option Addr) (l:List Int) (cap:Nat) (t0 t1 t2 t3 t4 t5 t6:Int) (w:World) (hn:l.length <= maxLen) (hcap:l.length <= cap) (hA:Ints w U w.1.size A l) (ht:Bk key l x ⟨t0,t1,t2,t3,t4,t5,t6,false⟩) (hc:AO ct cv) (h0:¬ 100000 <= t0) (h1:¬ 1000 <= t1) (hct:t0 < ct),Calls prog 133 #[σ #[O U key,ψ A l.length cap],O U x,σ #[O U t0,O U t1,O U t2,O U t3,O U t4,O U t5,O U t6,φ false],σ #[O U ct,O U cv]] w fun e w'=>e = τ (.tuple #[σ #[O U t0,O U t1,O U t2,O U t3,O U t4,O U t5,O U t6,φ true],σ #[O U ct,O U cv],O U 4]) /\ Below w.1.size w w'):=by
 refine ⟨fun key x ct cv A l cap t0 t1 t2 t3 t4 t5 t6 w hn hcap hA ht hc=>(fun (z_1:True)=>?_) trivial,fun key x ct cv A l cap t0 t1 t2 t3 t4 t5 t6 w hn hcap hA ht hc h0 h1 hct=>(fun (z_2:True)=>?_) trivial⟩
 all_goals
  first
   | guard_hyp z_1
     have K0:=hid (show Kept w [(w.1.size + 1 + 1 + 1 + 1,118,#[O U 0,O U 0]),(w.1.size + 1 + 1 + 1,94,#[O U 0,O U 0,O U 0,O U 0,O U 0,O U 0,O U 0,φ false]),(w.1.size + 1 + 1,118,#[O U ct,O U cv]),(w.1.size + 1,94,#[O U t0,O U t1,O U t2,O U t3,O U t4,O U t5,O U t6,φ true]),(w.1.size,26,#[O U key,ψ A l.length cap])] _ from ((((((Kept.refl w).put1 _ _ #[O U key,ψ A l.length cap] rfl).put1 _ _ #[O U t0,O U t1,O U t2,O U t3,O U t4,O U t5,O U t6,φ true] (by simp)).put1 _ _ #[O U ct,O U cv] (by simp)).put1 _ _ #[O U 0,O U 0,O U 0,O U 0,O U 0,O U 0,O U 0,φ false] (by simp)).put1 _ _ #[O U 0,O U 0] (by simp)))
   | have K0:=hid (show Kept w [(w.1.size + 1 + 1 + 1 + 1,118,#[O U 0,O U 0]),(w.1.size + 1 + 1 + 1,94,#[O U 0,O U 0,O U 0,O U 0,O U 0,O U 0,O U 0,φ false]),(w.1.size + 1 + 1,118,#[O U ct,O U cv]),(w.1.size + 1,94,#[O U t0,O U t1,O U t2,O U t3,O U t4,O U t5,O U t6,φ false]),(w.1.size,26,#[O U key,ψ A l.length cap])] _ from ((((((Kept.refl w).put1 _ _ #[O U key,ψ A l.length cap] rfl).put1 _ _ #[O U t0,O U t1,O U t2,O U t3,O U t4,O U t5,O U t6,φ false] (by simp)).put1 _ _ #[O U ct,O U cv] (by simp)).put1 _ _ #[O U 0,O U 0,O U 0,O U 0,O U 0,O U 0,O U 0,φ false] (by simp)).put1 _ _ #[O U 0,O U 0] (by simp)))
  have FI:=hid (fun (u:World) (hb:Below w.1.size w u)=>CI key x A l cap u hn hcap ((hA.below hb (lr _)).more hb.size))
  first
   | guard_hyp z_1
     have TO:=hid (fun (u:World) (hb:Below w.1.size w u)=>AX key x A l cap t0 t1 t2 t3 t4 t5 t6 true u hn ((hA.below hb (lr _)).more hb.size))
   | have TO:=hid (fun (u:World) (hb:Below w.1.size w u)=>AX key x A l cap t0 t1 t2 t3 t4 t5 t6 false u hn ((hA.below hb (lr _)).more hb.size))
  have CO:=hid (fun (u:World)=>AQ ct cv u)
  have hf:0 <= Ad key l x /\ Ad key l x <= 32:=by
   obtain ⟨r,hr⟩:∃ r:Nat,x = r:=⟨x.toNat,by have:=ht.2.1;omega⟩
   have hl:r < l.length:=by have:=ht.2.1;omega
   rw [hr,Cs ht.1 hl]
   have h1:=Dl ht.1.2.2.1 (show r <= l.length by omega)
   have h2:=ht.1.2.1.2
   omega
  have hd:decide (Ad key l x < 0) = false:=decide_eq_false (by omega)
  rw [Co ht] at TO
  rw [decide_eq_true hc] at CO
  clear ht hc hf hA hn
  generalize Ad key l x = f at FI hd
  first
   | guard_hyp z_1
   | have b0:decide (100000 <= t0) = false:=decide_eq_false h0
     have b1:decide (1000 <= t1) = false:=decide_eq_false h1
  go_enter func133,ntmps133
  go_wp2_with fail
  refine (FI.out _ K0.out.1).mono ?_;rintro e uz1 ⟨rfl,bz2⟩
  have hz3:=K0.out.below bz2
  clear bz2
  obtain ⟨X0,Y0,X1,Y1,X2,Y2,X3,Y3,X4,Y4,-⟩:=hz3.rd
  go_wp2_with fail
  refine (TO.out _ hz3.1).mono ?_;rintro e uz4 ⟨rfl,bz5⟩
  have hz6:=hz3.below bz5
  clear bz5 hz3 X0 Y0 X1 Y1 X2 Y2 X3 Y3 X4 Y4
  obtain ⟨X0,Y0,X1,Y1,X2,Y2,X3,Y3,X4,Y4,-⟩:=hz6.rd
  go_wp2_with fail
  refine (CO.out _).mono ?_;rintro e uz7 ⟨rfl,bz8⟩
  have hz9:=hz6.below bz8
  clear bz8 hz6 X0 Y0 X1 Y1 X2 Y2 X3 Y3 X4 Y4
  obtain ⟨X0,Y0,X1,Y1,X2,Y2,X3,Y3,X4,Y4,-⟩:=hz9.rd
  first
   | guard_hyp z_1
     go_upto_region 5 with fail
     have hst:∀ x ∈ ([(2,w.1.size + 1 + 1 + 1,94,#[O U t0,O U t1,O U t2,O U t3,O U t4,O U t5,O U t6,φ true]),(3,w.1.size + 1 + 1 + 1 + 1,118,#[O U ct,O U cv])]:List Res),w.1.size <= x.2.1 /\ (∀ y ∈ ([(w.1.size + 1 + 1,118,#[O U ct,O U cv]),(w.1.size + 1,94,#[O U t0,O U t1,O U t2,O U t3,O U t4,O U t5,O U t6,φ true]),(w.1.size,26,#[O U key,ψ A l.length cap])]:List Box),y.1 ≠ x.2.1) /\ ∃ z,Aa uz7 x.2.1 x.2.2.1 z /\ z.size = x.2.2.2.size:=by
      intro y hy
      simp only [List.mem_cons,List.not_mem_nil,or_false] at hy
      rcases hy with rfl | rfl
      ·exact ⟨by simp only [] <;> omega,by intro y hy;simp at hy;rcases hy with rfl | rfl | rfl <;> simp <;> omega,_,hz9.at_ (t:=94) (cs:=#[O U 0,O U 0,O U 0,O U 0,O U 0,O U 0,O U 0,φ false]) (by simp),rfl⟩
      ·exact ⟨by simp only [] <;> omega,by intro y hy;simp at hy;rcases hy with rfl | rfl | rfl <;> simp <;> omega,_,hz9.at_ (t:=118) (cs:=#[O U 0,O U 0]) (by simp),rfl⟩
     have hn0:Kept w [(w.1.size + 1 + 1,118,#[O U ct,O U cv]),(w.1.size + 1,94,#[O U t0,O U t1,O U t2,O U t3,O U t4,O U t5,O U t6,φ true]),(w.1.size,26,#[O U key,ψ A l.length cap])] _:=hz9.sub (by intro y hy;simp at hy |-;rcases hy with rfl | rfl | rfl <;> simp)
   | go_upto_region 10 with fail
     have hz10:Kept w [(w.1.size + 1 + 1 + 1 + 1,118,#[O U 0,O U 0]),(w.1.size + 1 + 1 + 1,94,#[O U 0,O U 0,O U 0,O U 0,O U 0,O U 0,O U 0,φ false]),(w.1.size + 1 + 1,118,#[O U ct,O U cv]),(w.1.size + 1,94,#[O U t0,O U t1,O U t2,O U t3,O U t4,O U t5,O U t6,φ true]),(w.1.size,26,#[O U key,ψ A l.length cap])] _:=hz9.put (k:=3) rfl (by unfold Apart;simp <;> omega) (Ai (Aj _ (some (w.1.size + 1))) 7 (φ true)) ((hz9.at_ (p:=w.1.size + 1) (t:=94) (cs:=#[O U t0,O U t1,O U t2,O U t3,O U t4,O U t5,O U t6,φ false]) (by simp)).set_ 7 _)
     clear hz9 X0 Y0 X1 Y1 X2 Y2 X3 Y3 X4 Y4
     generalize World.setCell _ _ _ = wq at hz10 |-
     obtain ⟨X0,Y0,X1,Y1,X2,Y2,X3,Y3,X4,Y4,-⟩:=hz10.rd
     have hst:∀ x ∈ ([(2,w.1.size + 1 + 1 + 1,94,#[O U t0,O U t1,O U t2,O U t3,O U t4,O U t5,O U t6,φ true]),(3,w.1.size + 1 + 1 + 1 + 1,118,#[O U ct,O U cv])]:List Res),w.1.size <= x.2.1 /\ (∀ y ∈ ([(w.1.size + 1 + 1,118,#[O U ct,O U cv]),(w.1.size + 1,94,#[O U t0,O U t1,O U t2,O U t3,O U t4,O U t5,O U t6,φ true]),(w.1.size,26,#[O U key,ψ A l.length cap])]:List Box),y.1 ≠ x.2.1) /\ ∃ z,Aa wq x.2.1 x.2.2.1 z /\ z.size = x.2.2.2.size:=by
      intro y hy
      simp only [List.mem_cons,List.not_mem_nil,or_false] at hy
      rcases hy with rfl | rfl
      ·exact ⟨by simp only [] <;> omega,by intro y hy;simp at hy;rcases hy with rfl | rfl | rfl <;> simp <;> omega,_,hz10.at_ (t:=94) (cs:=#[O U 0,O U 0,O U 0,O U 0,O U 0,O U 0,O U 0,φ false]) (by simp),rfl⟩
      ·exact ⟨by simp only [] <;> omega,by intro y hy;simp at hy;rcases hy with rfl | rfl | rfl <;> simp <;> omega,_,hz10.at_ (t:=118) (cs:=#[O U 0,O U 0]) (by simp),rfl⟩
     have hn0:Kept w [(w.1.size + 1 + 1,118,#[O U ct,O U cv]),(w.1.size + 1,94,#[O U t0,O U t1,O U t2,O U t3,O U t4,O U t5,O U t6,φ true]),(w.1.size,26,#[O U key,ψ A l.length cap])] _:=hz10.sub (by intro y hy;simp at hy |-;rcases hy with rfl | rfl | rfl <;> simp)
  refine Ao [false,false,true,true,false] (ShV []) (fun D _ u=>ResC w [(w.1.size + 1 + 1,118,#[O U ct,O U cv]),(w.1.size + 1,94,#[O U t0,O U t1,O U t2,O U t3,O U t4,O U t5,O U t6,φ true]),(w.1.size,26,#[O U key,ψ A l.length cap])] [(2,w.1.size + 1 + 1 + 1,94,#[O U t0,O U t1,O U t2,O U t3,O U t4,O U t5,O U t6,φ true]),(3,w.1.size + 1 + 1 + 1 + 1,118,#[O U ct,O U cv])] D u) (by kernel_rfl) (by kernel_rfl) (fun γ=>by kernel_rfl) (fun D γ γ' w _ h=>h) (ShV.inh _) (fun γ=>ResC.start hn0 hst) (fun γ hγ=>?_)
  clear hst hn0
  have g2:γ 2 = undef:=hγ 2 rfl
  have g3:γ 3 = undef:=hγ 3 rfl
  first
   | guard_hyp z_1
     clear hz9 X0 Y0 X1 Y1 X2 Y2 X3 Y3 X4 Y4
   | clear hz10 X0 Y0 X1 Y1 X2 Y2 X3 Y3 X4 Y4
  apply Exists.intro
  refine ⟨fun D=>?_,?_,?_⟩
  ·simp only [AP,cond_true,cond_false,Nat.reduceAdd,g2,g3]
   iterate 5 (first
    | go_big_quiet_skip
    | (go_big_quiet_want
       go_big_quiet_op
       first
        | go_big_quiet_on
        | (apply Exists.intro
           refine ⟨fun u hu=>?_,?_⟩
           ·first
              | with_reducible rfl
              | (obtain ⟨X0,Y0,X1,Y1,X2,Y2,-⟩:=hu.1.rd;go_simp;first | done | with_reducible rfl)
           go_big_quiet_on)))
   exact wpQuiet_nil rfl
  ·simp only [AY,Nat.reduceAdd]
   refine ⟨fun D u hD hd hu=>?_,fun D u hD hd hu=>?_,trivial⟩
   ·obtain ⟨z,hz,hzs⟩:=hu.at_ (k:=2) (p:=w.1.size + 1 + 1 + 1) (t:=94) (V:=#[O U t0,O U t1,O U t2,O U t3,O U t4,O U t5,O U t6,φ true]) (by simp)
    exact AI hz rfl rfl rfl (by kernel_rfl) hzs (by simp [Value.oneCell']) (fun w' hc hg=>⟨rfl,hu.stored (by simp) (by simp) hg hc⟩)
   ·obtain ⟨z,hz,hzs⟩:=hu.at_ (k:=3) (p:=w.1.size + 1 + 1 + 1 + 1) (t:=118) (V:=#[O U ct,O U cv]) (by simp)
    exact AI hz rfl rfl rfl (by kernel_rfl) hzs (by simp [Value.oneCell']) (fun w' hc hg=>⟨rfl,hu.stored (by simp) (by simp) hg hc⟩)
  ·intro D uf hD hu
   have hf:=hu.done (by intro y hy;simp only [List.mem_cons,List.not_mem_nil,or_false] at hy;rcases hy with rfl | rfl;exact hD 2 (by simp) rfl;exact hD 3 (by simp) rfl)
   clear hu hD
   obtain ⟨X0,Y0,X1,Y1,X2,Y2,X3,Y3,X4,Y4,-⟩:=hf.rd
   go_wp2_with fail
   first
    | guard_hyp z_1
      exact bodyPost_ret (v:=(.tuple #[σ #[O U t0,O U t1,O U t2,O U t3,O U t4,O U t5,O U t6,φ true],σ #[O U ct,O U cv],O U 2])) (by simp [results,results133,go_sem,X0,X1]) rfl ⟨rfl,hf.1⟩
    | exact bodyPost_ret (v:=(.tuple #[σ #[O U t0,O U t1,O U t2,O U t3,O U t4,O U t5,O U t6,φ true],σ #[O U ct,O U cv],O U 4])) (by simp [results,results133,go_sem,X0,X1]) rfl ⟨rfl,hf.1⟩
theorem Id:type_of% Dk.1:=Dk.1
theorem Im:type_of% Dk.2:=Dk.2

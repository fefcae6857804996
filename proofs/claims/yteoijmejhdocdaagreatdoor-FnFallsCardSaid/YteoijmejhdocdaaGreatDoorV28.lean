import Derived.RangeFuncBox
import Derived.RangeFuncLeaves
import Derived.Shelf.Abstract
import Derived.OwnWalkIn
import Derived.TacticsInMore
import Derived.LoopNIn
import Derived.LoopIn
import Derived.Test.YteoijmejhdocdaaGreatDoorV10
namespace Go.Proofs.YteoijmejhdocdaaGreatDoor.Mx
open Go.ChangeShapes Go.WideShapes Go.ChangeAt Go.RowKit
set_option linter.unusedVariables false
open Go.Lib (hid)
open Go.Proofs.Tryz
set_option maxRecDepth 20000
set_option maxHeartbeats 64000000
open Value renaming int → O, slice → ψ, bool → φ, agg → σ
open IntKind renaming i64 → U
open Ending renaming returned → τ
attribute [local go_sem] Oper.semAt_some
theorem DH (cs:Array Value) (i:Nat) (v:Value) (hi:i < 8) (hc:cs[i]? = some v) (w:World):(Instr.index 234 (σ cs) (O U (i:Int))).run prog w = .ok v w:=by
 obtain ⟨j,hj,hzz⟩:=Option.map_eq_some_iff.1 GD
 simp only [Prod.mk.injEq] at hzz
 simp [Instr.index,asIntOf,run_underlying underlying234,sizeOf,typeInfo,hj,hzz.2.1,hc,go_sem]
 intro h;omega
theorem Lb (C:Option Addr) (n c:Nat) (w:World):
    Calls prog 211 #[ψ C n c] w fun e w'=>e = τ (.func (.func 238) #[] #[.pointer (some ⟨w.1.size,0,none⟩)]) /\ w' = w.alloc (.cells #[ψ C n c] 27):=by
 go_enter func211,ntmps211
 go_wp2_with fail
 go_ret
 exact ⟨rfl,rfl⟩
theorem SJ (xs:List Int) (t:Tru) {j:Nat} {x:Int} (h:(Bh t)[j]? = some x):xs ++ (Bh t).take (j + 1) = xs ++ (Bh t).take j ++ [x]:=by
 rw [List.append_assoc]
 congr 1
 rw [List.take_add_one,h];rfl
theorem RM (L:List Tru) {k j:Nat} (hk:k < L.length):(L.take k).flatMap Bh ++ (Bh (L.getD k default)).take j <+: L.flatMap Bh:=by
 have h:=Ic hk
 refine List.IsPrefix.trans (l₂:=(L.take (k + 1)).flatMap Bh) ?_ ?_
 ·rw [h];exact List.prefix_append_right_inj _ |>.2 (List.take_prefix _ _)
 ·conv=>rhs;rw [<- List.take_append_drop (k + 1) L]
  rw [List.flatMap_append];exact List.prefix_append _ _
theorem len8 (L:List Tru) {k j:Nat} (hk:k < L.length) (hj:j < 8) (t:Tru):((L.take k).flatMap Bh ++ (Bh t).take j).length < L.length * 8:=by
 rw [List.length_append,Gk,List.length_take,List.length_take,Nat.min_eq_left (by omega)]
 show _ + min j 8 < _
 omega
theorem QR (n:Nat) (hn:1 <= n) (l Bn n₀:Nat) (C:Option Addr) (L:List Tru) (cap2:Nat) (hN:L.length <= 1048576) (J Jx:List Int -> World -> Prop)
    (hJ:∀ s W W',J s W -> W.grownBy W' none -> J s W')
    (hY:∀ pre x W,J pre W -> pre.length < L.length * 8 -> YieldAt Fence.wide (n - 1) prog l #[O U x] W fun e W'=>
     (e = τ (φ true) /\ J (pre ++ [x]) W' /\ Below n₀ W W') \/ (e = τ (φ false) /\ Jx (pre ++ [x]) W'))
    (W:World) (hn₀:n₀ <= W.1.size) (hBn:W.cell? ⟨Bn,0,none⟩ = some (ψ C L.length cap2)) (hL:Trs W n₀ C L) (h0:J [] W):
    CallsIn Fence.wide n prog 238 #[.func (.yield l) #[] #[],.pointer (some ⟨Bn,0,none⟩)] W fun e W'=>(∃ v,e = τ v) /\
     ((∃ ys,ys = L.flatMap Bh /\ J ys W') \/ (∃ pre,pre <+: L.flatMap Bh /\ Jx pre W')):=by
 have HL:=hid hL
 have HY:=hid hY
 have HJ:=hid hJ
 clear hL hY hJ
 refine callsIn_of_wp func238 rfl trivial ?_ rfl
 simp only [ntmps238,List.size_toArray,List.length_cons,List.length_nil,Nat.reduceAdd,Nat.reduceSub,Array.replicate_succ,Array.replicate_zero,List.push_toArray,List.append_toArray,List.nil_append,List.cons_append]
 gi_wp2
 gi_loopw [10] (fun i wr=>∃ k:Nat,k <= L.length /\ i = O U k /\ J ((L.take k).flatMap Bh) wr /\ Below n₀ W wr) (fun i _=>L.length - (intOf i).toNat)
 case atStart=>exact ⟨0,Nat.zero_le _,rfl,h0,Below.refl _ _⟩
 case round=>
  obtain ⟨k,hk,rfl,hJs,hnx⟩:=hrel
  by_cases hlt:k < L.length
  ·obtain ⟨b,off,rfl,hb,hc⟩:=HL.out.at_ hlt
   have hlt':(k:Int) < L.length:=by omega
   have hk0:(0:Int) <= k:=by omega
   obtain ⟨c0,c1,c2,c3,c4,c5,c6,c7⟩:=hc.below hnx hb
   generalize hT:L.getD k default = t at c0 c1 c2 c3 c4 c5 c6 c7
   gi_wp2
   have hz2:Kept wr [(wr.1.size,94,#[O U t.clock,O U t.epoch,O U t.cursor,O U t.read,O U t.written,O U t.nread,O U t.nwritten,φ t.failed])] (wr.alloc (.cells #[O U t.clock,O U t.epoch,O U t.cursor,O U t.read,O U t.written,O U t.nread,O U t.nwritten,φ t.failed] 94)):=(Kept.refl wr).put1 _ _ #[O U t.clock,O U t.epoch,O U t.cursor,O U t.read,O U t.written,O U t.nread,O U t.nwritten,φ t.failed] rfl
   clear c0 c1 c2 c3 c4 c5 c6 c7
   generalize World.alloc _ _ = w1 at hz2 |-
   refine wpIn_wide.2 ?_
   refine Ao [false,false,false,false,false,false,false,false,false,false,false,false,false,false,false,false,true,false,true,true] (ShM [(16,O U (Cd t.failed))] [18]) (fun D γ u=>DL w1 (w1.1.size) [] [] [(18,19,234,#[O U t.clock,O U t.epoch,O U t.cursor,O U t.read,O U t.written,O U t.nread,O U t.nwritten,O U (Cd t.failed)])] D γ u) (by kernel_rfl) (by kernel_rfl) (fun γ=>by kernel_rfl) (fun D γ γ' w ha h=>h.loc ha) (ShM.inh _ _) (fun γ=>DL.start (ResC.start (Kept.refl _) (fun x hx=>by cases hx)) (lr _) (lr _) (fun x hx=>by cases hx) (fun x hx=>by cases hx)) (fun γ hγ=>?_)
   have g16:γ 16 = O U (Cd t.failed):=hγ 16 rfl
   have g19:γ 19 = undef:=hγ 19 rfl
   obtain ⟨bq,g18⟩:∃ g:Nat,γ 18 = .pointer (some ⟨g,0,none⟩):=hγ 18 rfl
   apply Exists.intro
   refine ⟨fun D=>?_,?_,?_⟩
   ·simp only [AP,cond_true,cond_false,Nat.reduceAdd,g16,g19,g18]
    iterate 20 (first
     | go_big_quiet_skip
     | (go_big_quiet_want
        go_big_quiet_op
        first
         | go_big_quiet_on
         | (apply Exists.intro
            refine ⟨fun u hu=>?_,?_⟩
            ·first
               | with_reducible rfl
               | (have hk9:=hz2.below hu.1.1.1;obtain ⟨X0,Y0,-⟩:=hk9.rd;go_simp;first | done | with_reducible rfl)
            go_big_quiet_on)))
    exact wpQuiet_nil rfl
   ·simp only [AY,Nat.reduceAdd]
    refine ⟨fun D u hD hd hu=>?_,fun D u hD hd hu=>?_,fun D u hD hd hu=>?_,trivial⟩
    ·have hb:=hu.1.1.1
     exact As ((((Lt t.failed u).mono fun e w' h=>(⟨h.1,h.2 ▸ Below.refl _ _⟩:_ /\ Below u.1.size u w'))).mono fun e w' ⟨he,hb⟩=>⟨_,he,rfl,hu.below hb 16 _ (by simp)⟩) rfl rfl rfl rfl (by kernel_rfl)
    ·exact DJ (cs:=#[O U 0,O U 0,O U 0,O U 0,O U 0,O U 0,O U 0,O U 0]) rfl (by kernel_rfl) ⟨⟨_,rfl⟩,hu.made (j:=19) (t:=234) (V:=#[O U t.clock,O U t.epoch,O U t.cursor,O U t.read,O U t.written,O U t.nread,O U t.nwritten,O U (Cd t.failed)]) (by simp) (by simp) (by simp) hD (by decide) rfl⟩
    ·have dk:=hd { on:=18,ground:=Ground.data } (by simp) rfl rfl
     obtain ⟨g0,e1,z,hz,hzs⟩:=hu.box (k:=18) (j:=19) (t:=234) (V:=#[O U t.clock,O U t.epoch,O U t.cursor,O U t.read,O U t.written,O U t.nread,O U t.nwritten,O U (Cd t.failed)]) (by simp) dk
     obtain rfl:bq = g0:=by rw [g18] at e1;simpa using e1
     exact AI hz rfl rfl rfl (by kernel_rfl) hzs (by simp [Value.oneCell']) (fun w' hc hg=>⟨rfl,hu.filled (k:=18) (t:=234) (V:=#[O U t.clock,O U t.epoch,O U t.cursor,O U t.read,O U t.written,O U t.nread,O U t.nwritten,O U (Cd t.failed)]) (by simp) dk (by simp) (by simp) (by decide) e1 hg hc _⟩)
   ·intro D uf hD hu
    have hb3:=hu.1.1.1
    have hf:=hz2.below hb3
    obtain ⟨g0,e1,hge18,hgc18⟩:=hu.doneM (k:=18) (j:=19) (t:=234) (V:=#[O U t.clock,O U t.epoch,O U t.cursor,O U t.read,O U t.written,O U t.nread,O U t.nwritten,O U (Cd t.failed)]) (by simp) (hD 18 (by simp) rfl) (hD 19 (by simp) rfl)
    obtain rfl:bq = g0:=by rw [g18] at e1;simpa using e1
    clear e1
    have hfz1:=hf.more (Nat.le_trans hz2.1.size hge18) hgc18
    clear hu hD
    obtain ⟨X0,Y0,X1,Y1,-⟩:=hfz1.rd
    have JK:=hid (HJ.out _ _ _ hJs (BV hfz1.1 none))
    have NK:=hid (hnx.trans (hfz1.1.mono (Nat.le_trans hn₀ hnx.size)))
    clear hJs hnx hz2
    gi_wp2
    clear X0 Y0 X1 Y1 hf hfz1 hb3
    have HX:=hid (fun j=>RM (j:=j) L hlt)
    have HTS:=hid (Ic hlt)
    rw [hT] at HX HTS
    gi_loopw [33] (fun i wz=>∃ j:Nat,j <= 8 /\ i = O U j /\ J ((L.take k).flatMap Bh ++ (Bh t).take j) wz /\ Below n₀ W wz) (fun i _=>8 - (intOf i).toNat)
    case atStart=>exact ⟨0,Nat.zero_le _,rfl,by simpa using JK.out,NK.out⟩
    case round=>
     obtain ⟨j,hj,rfl,hJz,hnz⟩:=hrel
     by_cases hj8:j < 8
     ·have e8:j = 0 \/ j = 1 \/ j = 2 \/ j = 3 \/ j = 4 \/ j = 5 \/ j = 6 \/ j = 7:=by omega
      obtain ⟨x,hx⟩:∃ x,(Bh t)[j]? = some x:=⟨_,List.getElem?_eq_getElem (show j < (Bh t).length from hj8)⟩
      obtain ⟨fn,tmps,assign,body,hy,hR⟩:=HY.out _ x wr hJz (len8 L hlt hj8 t)
      have HT8:=hid (SJ ((L.take k).flatMap Bh) t hx)
      rcases e8 with rfl | rfl | rfl | rfl | rfl | rfl | rfl | rfl
      have z_1:=trivial;rotate_left;have z_2:=trivial;rotate_left;have z_3:=trivial;rotate_left;have z_4:=trivial;rotate_left;have z_5:=trivial;rotate_left;have z_6:=trivial;rotate_left;have z_7:=trivial;rotate_left;have z_8:=trivial;rotate_left
      all_goals
       obtain rfl:=Option.some.inj hx
       first
        | guard_hyp z_1
          have hix:(Instr.index 234 (σ #[O U t.clock,O U t.epoch,O U t.cursor,O U t.read,O U t.written,O U t.nread,O U t.nwritten,O U (Cd t.failed)]) (O U 0)).run prog wr = .ok (O U t.clock) wr:=DH #[O U t.clock,O U t.epoch,O U t.cursor,O U t.read,O U t.written,O U t.nread,O U t.nwritten,O U (Cd t.failed)] 0 _ (by omega) rfl wr
        | guard_hyp z_2
          have hix:(Instr.index 234 (σ #[O U t.clock,O U t.epoch,O U t.cursor,O U t.read,O U t.written,O U t.nread,O U t.nwritten,O U (Cd t.failed)]) (O U 1)).run prog wr = .ok (O U t.epoch) wr:=DH #[O U t.clock,O U t.epoch,O U t.cursor,O U t.read,O U t.written,O U t.nread,O U t.nwritten,O U (Cd t.failed)] 1 _ (by omega) rfl wr
        | guard_hyp z_3
          have hix:(Instr.index 234 (σ #[O U t.clock,O U t.epoch,O U t.cursor,O U t.read,O U t.written,O U t.nread,O U t.nwritten,O U (Cd t.failed)]) (O U 2)).run prog wr = .ok (O U t.cursor) wr:=DH #[O U t.clock,O U t.epoch,O U t.cursor,O U t.read,O U t.written,O U t.nread,O U t.nwritten,O U (Cd t.failed)] 2 _ (by omega) rfl wr
        | guard_hyp z_4
          have hix:(Instr.index 234 (σ #[O U t.clock,O U t.epoch,O U t.cursor,O U t.read,O U t.written,O U t.nread,O U t.nwritten,O U (Cd t.failed)]) (O U 3)).run prog wr = .ok (O U t.read) wr:=DH #[O U t.clock,O U t.epoch,O U t.cursor,O U t.read,O U t.written,O U t.nread,O U t.nwritten,O U (Cd t.failed)] 3 _ (by omega) rfl wr
        | guard_hyp z_5
          have hix:(Instr.index 234 (σ #[O U t.clock,O U t.epoch,O U t.cursor,O U t.read,O U t.written,O U t.nread,O U t.nwritten,O U (Cd t.failed)]) (O U 4)).run prog wr = .ok (O U t.written) wr:=DH #[O U t.clock,O U t.epoch,O U t.cursor,O U t.read,O U t.written,O U t.nread,O U t.nwritten,O U (Cd t.failed)] 4 _ (by omega) rfl wr
        | guard_hyp z_6
          have hix:(Instr.index 234 (σ #[O U t.clock,O U t.epoch,O U t.cursor,O U t.read,O U t.written,O U t.nread,O U t.nwritten,O U (Cd t.failed)]) (O U 5)).run prog wr = .ok (O U t.nread) wr:=DH #[O U t.clock,O U t.epoch,O U t.cursor,O U t.read,O U t.written,O U t.nread,O U t.nwritten,O U (Cd t.failed)] 5 _ (by omega) rfl wr
        | guard_hyp z_7
          have hix:(Instr.index 234 (σ #[O U t.clock,O U t.epoch,O U t.cursor,O U t.read,O U t.written,O U t.nread,O U t.nwritten,O U (Cd t.failed)]) (O U 6)).run prog wr = .ok (O U t.nwritten) wr:=DH #[O U t.clock,O U t.epoch,O U t.cursor,O U t.read,O U t.written,O U t.nread,O U t.nwritten,O U (Cd t.failed)] 6 _ (by omega) rfl wr
        | have hix:(Instr.index 234 (σ #[O U t.clock,O U t.epoch,O U t.cursor,O U t.read,O U t.written,O U t.nread,O U t.nwritten,O U (Cd t.failed)]) (O U 7)).run prog wr = .ok (O U (Cd t.failed)) wr:=DH #[O U t.clock,O U t.epoch,O U t.cursor,O U t.read,O U t.written,O U t.nread,O U t.nwritten,O U (Cd t.failed)] 7 _ (by omega) rfl wr
       clear hJz
       gi_wp2
       refine hR.mono ?_
       rintro e W3 (⟨rfl,hJ3,hk3⟩ | ⟨rfl,hJx3⟩)
       first
        | guard_hyp z_1
          ·gi_wp2
           go_roundw
           case rel=>exact ⟨1,by omega,rfl,by rw [HT8.out];exact hJ3,hnz.trans hk3⟩
           case measure=>simp [intOf]
          ·gi_wp2
           refine bodyPost_ret (results_none rfl _ _ _) rfl ?_
           exact ⟨⟨_,rfl⟩,.inr ⟨_,by have h:=HX.out 1;rw [HT8.out] at h;exact h,hJx3⟩⟩
        | guard_hyp z_2
          ·gi_wp2
           go_roundw
           case rel=>exact ⟨2,by omega,rfl,by rw [HT8.out];exact hJ3,hnz.trans hk3⟩
           case measure=>simp [intOf]
          ·gi_wp2
           refine bodyPost_ret (results_none rfl _ _ _) rfl ?_
           exact ⟨⟨_,rfl⟩,.inr ⟨_,by have h:=HX.out 2;rw [HT8.out] at h;exact h,hJx3⟩⟩
        | guard_hyp z_3
          ·gi_wp2
           go_roundw
           case rel=>exact ⟨3,by omega,rfl,by rw [HT8.out];exact hJ3,hnz.trans hk3⟩
           case measure=>simp [intOf]
          ·gi_wp2
           refine bodyPost_ret (results_none rfl _ _ _) rfl ?_
           exact ⟨⟨_,rfl⟩,.inr ⟨_,by have h:=HX.out 3;rw [HT8.out] at h;exact h,hJx3⟩⟩
        | guard_hyp z_4
          ·gi_wp2
           go_roundw
           case rel=>exact ⟨4,by omega,rfl,by rw [HT8.out];exact hJ3,hnz.trans hk3⟩
           case measure=>simp [intOf]
          ·gi_wp2
           refine bodyPost_ret (results_none rfl _ _ _) rfl ?_
           exact ⟨⟨_,rfl⟩,.inr ⟨_,by have h:=HX.out 4;rw [HT8.out] at h;exact h,hJx3⟩⟩
        | guard_hyp z_5
          ·gi_wp2
           go_roundw
           case rel=>exact ⟨5,by omega,rfl,by rw [HT8.out];exact hJ3,hnz.trans hk3⟩
           case measure=>simp [intOf]
          ·gi_wp2
           refine bodyPost_ret (results_none rfl _ _ _) rfl ?_
           exact ⟨⟨_,rfl⟩,.inr ⟨_,by have h:=HX.out 5;rw [HT8.out] at h;exact h,hJx3⟩⟩
        | guard_hyp z_6
          ·gi_wp2
           go_roundw
           case rel=>exact ⟨6,by omega,rfl,by rw [HT8.out];exact hJ3,hnz.trans hk3⟩
           case measure=>simp [intOf]
          ·gi_wp2
           refine bodyPost_ret (results_none rfl _ _ _) rfl ?_
           exact ⟨⟨_,rfl⟩,.inr ⟨_,by have h:=HX.out 6;rw [HT8.out] at h;exact h,hJx3⟩⟩
        | guard_hyp z_7
          ·gi_wp2
           go_roundw
           case rel=>exact ⟨7,by omega,rfl,by rw [HT8.out];exact hJ3,hnz.trans hk3⟩
           case measure=>simp [intOf]
          ·gi_wp2
           refine bodyPost_ret (results_none rfl _ _ _) rfl ?_
           exact ⟨⟨_,rfl⟩,.inr ⟨_,by have h:=HX.out 7;rw [HT8.out] at h;exact h,hJx3⟩⟩
        | · gi_wp2
            go_roundw
            case rel=>exact ⟨8,by omega,rfl,by rw [HT8.out];exact hJ3,hnz.trans hk3⟩
            case measure=>simp [intOf]
          ·gi_wp2
           refine bodyPost_ret (results_none rfl _ _ _) rfl ?_
           exact ⟨⟨_,rfl⟩,.inr ⟨_,by have h:=HX.out 8;rw [HT8.out] at h;exact h,hJx3⟩⟩
     ·obtain rfl:j = 8:=by omega
      have hJ8:J ((L.take (k + 1)).flatMap Bh) wr:=by rw [HTS.out];exact hJz
      clear hJz
      gi_wp2
      go_roundw
      case rel=>exact ⟨k + 1,by omega,by go_num,hJ8,hnz⟩
      case measure=>simp [intOf];omega
  ·obtain rfl:k = L.length:=by omega
   gi_wp2
   go_end0
   exact ⟨⟨_,rfl⟩,.inl ⟨_,rfl,by simpa using hJs⟩⟩
attribute [local go_sem] Oper.semAt_some
theorem NO {β:Type} {B:Nat} {b:World} {L:List Box} (hB:b.1.size <= B):OwnFrom B (fun (_:β) W=>Kept b L W):=by
 intro s W W' row hs hg hr
 refine ⟨hs.1.grown hg hs.1.size (fun k e=>Nat.le_trans hB (hr k e).1),fun x hx=>⟨(hs.2 x hx).1,?_⟩⟩
 refine (hs.2 x hx).2.grown hg ?_
 intro e
 obtain ⟨_,o,ho,hc⟩:=hr x.1 e.symm
 rw [(hs.2 x hx).2] at ho
 cases ho;cases hc
theorem Kept.upto {b W W':World} {L:List Box} {n:Nat} (h:Kept b L W) (hb:Below n W W') (h1:b.1.size <= n) (h2:∀ x ∈ L,x.1 < n):Kept b L W':=
 ⟨h.1.trans (hb.mono h1),fun x hx=>⟨(h.2 x hx).1,(hb.block x.1 (h2 x hx)).trans (h.2 x hx).2⟩⟩
theorem Rn {L:List Tru} (h:Cx L):I64s (L.flatMap Bh):=by
 induction L with
 | nil=>exact I64s.nil
 | cons t L ih=>
   rw [List.flatMap_cons]
   exact I64s.append (Kq (h 0 (by simp))) (ih (fun i hi=>by have:=h (i + 1) (by simpa using hi);simpa using this))
theorem Np (n:Nat) (hn:1 <= n) (Bn n₀:Nat) (C:Option Addr) (L:List Tru) (cap2:Nat) (hN:L.length <= 1048576) (w:World) (hBn:Bn < w.1.size) (hn₀:n₀ <= w.1.size)
    (hc:w.cell? ⟨Bn,0,none⟩ = some (ψ C L.length cap2)) (hL:Trs w n₀ C L):
    SeqStopsK Fence.wide n prog 238 #[.pointer (some ⟨Bn,0,none⟩)] (fun x:Int=>#[Value.int U x]) (Below n₀) (fun ys=>ys = L.flatMap Bh) (fun pre=>pre <+: L.flatMap Bh) (L.length * 8) w:=fun l J Jx W hW hJ _ hY h0=>
 QR n hn l Bn n₀ C L cap2 hN J Jx (fun s X Y hs hg=>hJ s X Y none hs hg (fun r e=>by cases e)) hY W (Nat.le_trans hn₀ hW.size) ((hW.cell (p:=⟨Bn,0,none⟩) hBn).trans hc) (hL.below (hW.mono hn₀) (lr _)) h0
theorem LK (key count:Int) (A C:Option Addr) (l:List Int) (cap:Nat) (hcap:l.length <= cap) (L:List Tru) (cap2:Nat) (w:World) (hn:l.length <= 1048576) (hA:Ints w U w.1.size A l) (hN:L.length <= 1048576) (hC:Trs w w.1.size C L) (hI:Cx L) (hc0:I64 count):
    Calls prog 142 #[σ #[O U key,ψ A l.length cap],O U count,ψ C L.length cap2] w fun e w'=>e = τ (O U (Fa key l count L)) /\ Below w.1.size w w':=by
 have K0:=hid (show Kept w [(w.1.size,26,#[O U key,ψ A l.length cap])] _ from (Kept.refl w).put1 _ _ #[O U key,ψ A l.length cap] rfl)
 have hm2:l.length <= maxLen:=by unfold maxLen;omega
 have PO:=hid (fun (u:World) (hb:Below w.1.size w u)=>EL key A l cap u hm2 hcap ((hA.below hb (lr _)).more hb.size))
 have HC:=hid hC
 have HI:=hid hI
 unfold Fa
 clear hA hC hn hI hcap hm2
 by_cases hp:Ay key l
 ·rw [if_pos hp]
  rw [CZ hp] at PO
  clear hp
  refine (callsIn_wide (n:=8)).1 ?_
  refine callsIn_of_wp_marks func142 rfl trivial ?_ rfl
  simp only [ntmps142,List.size_toArray,List.length_cons,List.length_nil,Nat.reduceAdd,Nat.reduceSub,Array.replicate_succ,Array.replicate_zero,List.push_toArray,List.append_toArray,List.nil_append,List.cons_append]
  gi_wp2_with fail
  refine ⟨trivial,callsIn_wide.2 ((PO.out _ K0.out.1).mono ?_)⟩;rintro e w1 ⟨rfl,b1⟩
  have h1:=K0.out.below b1
  have hs1:w.1.size + 1 <= w1.1.size:=h1.lt (x:=(w.1.size,26,#[O U key,ψ A l.length cap])) (by simp)
  have RW:=hid (Row.lit w1 (w.1.size + 1) [3,count,(L.length:Int)] hs1 (by simp [maxLen]) (I64s.cons (by omega) (by omega) (I64s.cons hc0.1 hc0.2 (I64s.cons (by omega) (by omega) I64s.nil))))
  clear b1 K0
  have H1:=hid h1
  clear h1
  gi_wp2_with fail
  have hrow:=RW.out
  have hkp:=H1.out.below ((Below.refl _ _).alloc (lr _) (.cells #[O U 3,O U count,O U (L.length:Int)] 2))
  clear RW H1
  refine ⟨trivial,callsIn_wide.2 ((Lb C L.length cap2 _).mono ?_)⟩;rintro e w' ⟨rfl,rfl⟩
  gi_wp2_with fail
  obtain ⟨i0,hi,hzz⟩:=Option.map_eq_some_iff.1 GD
  simp only [Prod.mk.injEq] at hzz
  obtain ⟨hz0,hz1,hz2⟩:=hzz
  have hrow1:(w1.alloc (.cells #[O U 3,O U count,O U (L.length:Int)] 2)).ownsRow (w.1.size + 1) 2 1 (ψ (some ⟨w1.1.size,0,none⟩) 3 3) 3 (([3,count,(L.length:Int)] ++ []).map (Value.int U)):=hrow.1
  have bO:=Boxed.new (w1.alloc (.cells #[O U 3,O U count,O U (L.length:Int)] 2)) 24 (ψ (some ⟨w1.1.size,0,none⟩) 3 3)
  rw [World.size_alloc] at bO
  have bN:=Boxed.new ((w1.alloc (.cells #[O U 3,O U count,O U (L.length:Int)] 2)).alloc (.cells #[ψ (some ⟨w1.1.size,0,none⟩) 3 3] 24)) 27 (ψ C L.length cap2)
  rw [World.size_alloc,World.size_alloc] at bN
  have hrow0:=(hrow1.alloc (.cells #[ψ (some ⟨w1.1.size,0,none⟩) 3 3] 24)).alloc (.cells #[ψ C L.length cap2] 27)
  have hk0:=(hkp.below ((Below.refl _ _).alloc (lr _) (.cells #[ψ (some ⟨w1.1.size,0,none⟩) 3 3] 24))).below ((Below.refl _ _).alloc (lr _) (.cells #[ψ C L.length cap2] 27))
  have bO':=bO.alloc (.cells #[ψ C L.length cap2] 27)
  have hsz:(((w1.alloc (.cells #[O U 3,O U count,O U (L.length:Int)] 2)).alloc (.cells #[ψ (some ⟨w1.1.size,0,none⟩) 3 3] 24)).alloc (.cells #[ψ C L.length cap2] 27)).1.size = w1.1.size + 3:=by simp
  have IL:=hid hrow.2
  clear hrow hrow1 hkp bO
  generalize World.alloc _ _ = W0 at hrow0 hk0 bN bO' hsz |-
  have HCW:=HC.out.below hk0.1 (lr _)
  refine wpIn_rangeFunc_ownF (gf:=238) (lb:=#[.pointer (some ⟨w1.1.size + 1 + 1,0,none⟩)]) rfl (by omega) rfl trivial (enters_of func238 (by kernel_rfl) rfl)
   (Np 7 (by omega) (w1.1.size + 1 + 1) w.1.size C L cap2 hN W0 (by omega) (by omega) bN.cell HCW) belowK_t (belowK_b (by omega)) (Below.refl _ _) (fun _=>rfl)
   (fun pre W=>(∃ v,Boxed W (w1.1.size + 1) 24 v /\ W.ownsRow (w.1.size + 1) 2 1 v ([3,count,(L.length:Int)] ++ pre).length (([3,count,(L.length:Int)] ++ pre).map (Value.int U)) /\ True) /\ Kept w [(w.1.size,26,#[O U key,ψ A l.length cap])] W)
   (fun _ _ _=>False)
   (OwnFrom.and (Own.from (holdsRow_own (w.1.size + 1) (w1.1.size + 1) 24 2 1 (fun pre=>([3,count,(L.length:Int)] ++ pre).length) (fun pre=>([3,count,(L.length:Int)] ++ pre).map (Value.int U)) (fun pre v=>True)) _) (NO (by omega)))
   (fun _ _ _ _ _ hs _ _=>hs)
   ⟨⟨_,bO',hrow0,trivial⟩,hk0⟩
   (fun x=>{ tmps:=#[σ #[O U key,ψ A l.length cap],O U count,ψ C L.length cap2,.pointer (some ⟨w.1.size,0,none⟩),undef,undef,O U 0,.pointer (some ⟨w1.1.size + 1,0,none⟩),O U x,σ #[O U key,ψ A l.length cap],φ true,φ false,O U count,ψ C L.length cap2,O U (L.length:Int),ψ (some ⟨w1.1.size,0,none⟩) 3 3,ψ C L.length cap2,.func (.func 238) #[] #[.pointer (some ⟨w1.1.size + 1 + 1,0,none⟩)],O U x,undef,undef,undef,undef,undef,undef,undef,undef],defers:=[] }) ?assign ?body ?done ?stop
  case assign=>
   intro l x W K hK
   gi_wp2
   exact hK
  case body=>
   rintro l' pre x W ⟨⟨v,hv,hrow,-⟩,hkw⟩ hlt
   have hc:=hv.cell
   have hln:([3,count,(L.length:Int)] ++ pre).length <= 3 + pre.length:=by rw [List.length_append];exact lr _
   have hws:w.1.size + 1 <= W.1.size:=hkw.lt (x:=(w.1.size,26,#[O U key,ψ A l.length cap])) (by simp)
   have HS:=hid (show ([3,count,(L.length:Int)] ++ (pre ++ [x])).map (Value.int U) = ([3,count,(L.length:Int)] ++ pre).map (Value.int U) ++ [O U x] from by rw [<- List.append_assoc,List.map_append];rfl)
   have HN2:=hid (show ([3,count,(L.length:Int)] ++ (pre ++ [x])).length = ([3,count,(L.length:Int)] ++ pre).length + 1 from by rw [<- List.append_assoc,List.length_append];rfl)
   generalize ([3,count,(L.length:Int)] ++ pre).map (Value.int U) = zs at hrow HS
   generalize ([3,count,(L.length:Int)] ++ pre).length = zl at hrow HN2 hln
   gi_wp2_with (gi_at_builtin;refine wpListIn_append_own _ rfl _ _ 24 rfl (w.1.size + 1) 2 i0 (O U 0) 1 8 underlying24 hi hz0 hz1 hz2 rfl (by decide) _ _ _ rfl (hrow.alloc _) ⟨W.1.size,0,none⟩ 1 1 [O U x] rfl rfl (cell_one_new _ _ _) (by simp [Value.oneCell']) (by unfold maxLen;omega) (by omega) (by simp;omega) ?_;intro v' w2 hown' hgrow _;obtain ⟨g',cap',rfl⟩:=ownsRow_succ hown';obtain ⟨hv1,hv2,hr2,hk2,hb2⟩:=hv.appended (by decide) hrow hws (by omega) hown' hgrow;have hc1:=hv1.cell;have hf1:=hv1.frozen)
   refine ⟨hk2,hb2.mono (by omega),⟨_,hv2,by rw [HS.out,HN2.out];exact hr2,trivial⟩,hkw.upto hb2 (by omega) (by intro y hy;simp at hy;subst hy;simp)⟩
  case done=>
   rintro D ys W hD rfl ⟨⟨v,hv,hrow,-⟩,hkw⟩ hK
   have hc:=hv.cell
   obtain ⟨X0,Y0,-⟩:=hkw.rd
   have hlen:([3,count,(L.length:Int)] ++ L.flatMap Bh).length <= 3 + L.length * 8:=by rw [List.length_append,Gk];exact lr _
   have hrr:Row W (w.1.size + 1) 2 v ([3,count,(L.length:Int)] ++ L.flatMap Bh):=⟨hrow,I64s.append IL.out (fun i hi=>Rn HI.out i hi)⟩
   obtain ⟨B,c,rfl,hI2⟩:=hrr.reads
   have MX:=hid (fun u hu=>Oi key B ([3,count,(L.length:Int)] ++ L.flatMap Bh) c W.1.size u (by unfold maxLen;omega) hu hrr.2)
   rw [show Df key ([3,count,(L.length:Int)] ++ L.flatMap Bh) = Df key (IC count L) from rfl] at MX
   have HIN:=hid hI2
   have HKW:=hid hkw.1
   obtain ⟨mx,hmx⟩:∃ m,m = Df key (IC count L):=⟨_,rfl⟩
   rw [<- hmx] at MX
   have HMX:=hid hmx
   clear hmx
   generalize ([3,count,(L.length:Int)] ++ L.flatMap Bh).length = zl at MX hc
   clear hrr hrow hI2 hkw hv hlen
   gi_wp2_with fail
   refine ⟨trivial,callsIn_wide.2 ((MX.out _ HIN.out).mono ?_)⟩;rintro e w' ⟨rfl,rfl⟩
   gi_wp2_with fail
   refine ⟨by simp,.inl ⟨_,_,rfl,run_takeDeferred hK,?_⟩⟩
   exact ⟨_,results_tmp rfl _ _ _,by rw [<- HMX.out];rfl,HKW.out.trans (belowK_b (w:=w) (lr _) W D _ _ (by omega) hK rfl rfl)⟩
  case stop=>
   rintro D c pre W _ _ h _
   exact h.elim
 ·rw [if_neg hp]
  rw [Dg hp] at PO
  clear hp
  go_enter func142,ntmps142
  go_wp2_with fail
  refine (PO.out _ K0.out.1).mono ?_;rintro e w1 ⟨rfl,b1⟩
  have h1:=K0.out.below b1
  clear b1 K0
  have H1:=hid h1
  clear h1
  go_wp2_with fail
  go_ret
  exact ⟨rfl,H1.out.1⟩
theorem Gh (key:Int) (A:Option Addr) (l:List Int) (cap:Nat) (hcap:l.length <= cap) (cnt:Int) (B:Option Addr) (L:List Tru) (tc:Nat) (w:World) (hn:l.length <= 1048576) (hA:Ints w U w.1.size A l) (hN:L.length <= 1048576) (hB:Trs w w.1.size B L) (hI:Cx L) (hc0:I64 cnt):
    Calls prog 69 #[σ #[O U key,ψ A l.length cap],O U cnt,ψ B L.length tc] w (OD w (Dq key l cnt L).1 (Dq key l cnt L).2.1 (Dq key l cnt L).2.2):=by
 have K0:=hid (show Kept w [(w.1.size + 1,89,#[O U 0,ψ none 0 0,O U 0]),(w.1.size,26,#[O U key,ψ A l.length cap])] _ from (((Kept.refl w).put1 _ _ #[O U key,ψ A l.length cap] rfl).put1 _ _ #[O U 0,ψ none 0 0,O U 0] (by simp)))
 have TS:=hid (fun (u:World) (hb:Below w.1.size w u)=>Gc key A B l cap hcap L tc u hn ((hA.below hb (lr _)).more hb.size) (by unfold maxLen;omega) ((hB.below hb (lr _)).more hb.size))
 have MC:=hid (fun (u:World) (hb:Below w.1.size w u)=>LK key cnt A B l cap hcap L tc u hn ((hA.below hb (lr _)).more hb.size) hN ((hB.below hb (lr _)).more hb.size) hI hc0)
 have IN:=hid (fun (u:World)=>FQ cnt u hc0)
 have CO0:=fun (h0:0 < L.length) (u:World) (hb:Below w.1.size w u)=>LU B L tc u h0 hN ((hB.below hb (lr _)).more hb.size)
 clear hA hB hI hc0 hn hcap
 unfold Dq
 by_cases hr:0 <= cnt /\ cnt <= 10000
 ·rw [decide_eq_true hr] at IN
  by_cases ht:Ba key l L
  ·rw [DQ ht] at TS
   rw [if_pos ⟨ht,hr⟩]
   have CO:=hid (CO0 (by have h1:=ht.2.1;have h2:=ht.1.2.1;omega))
   simp only []
   generalize Fa key l cnt L = mo at MC |-
   clear ht hr CO0
   go_enter func69,ntmps69
   go_wp2_with fail
   refine (IN.out _).mono ?_;rintro e w' ⟨rfl,rfl⟩
   go_wp2_with fail
   refine (TS.out _ K0.out.1).mono ?_;rintro e uz1 ⟨rfl,bz2⟩
   have hz3:=K0.out.below bz2
   clear bz2
   obtain ⟨X0,Y0,X1,Y1,-⟩:=hz3.rd
   go_upto_region 3 with fail
   have lm0:w.1.size < uz1.1.size:=hz3.lt (x:=(w.1.size,26,#[O U key,ψ A l.length cap])) (by simp)
   have lm1:w.1.size + 1 < uz1.1.size:=hz3.lt (x:=(w.1.size + 1,89,#[O U 0,ψ none 0 0,O U 0])) (by simp)
   have hn0:Kept w [(w.1.size,26,#[O U key,ψ A l.length cap])] _:=hz3.sub (by intro y hy;simp at hy |-;subst hy;simp)
   have hcz:=hz3.at_ (p:=w.1.size + 1) (t:=89) (cs:=#[O U 0,ψ none 0 0,O U 0]) (by simp)
   have hok:OutB.Ok (⟨w.1.size + 1,89,3,8,[2],fun γ=>#[O U cnt,γ 2,O U mo]⟩:OutB) w (uz1.1.size) [(w.1.size,26,#[O U key,ψ A l.length cap])]:=⟨by simp only [] <;> omega,by simp only [] <;> omega,by intro y hy;simp only [List.mem_cons,List.not_mem_nil,or_false] at hy;subst hy <;> (simp only [];omega),fun γ γ' ha=>by simp only [];rw [ha 2 (by simp)],fun γ=>rfl,by simp⟩
   have hstab:∀ zz ∈ ([AE 2 w.1.size 94 8 L.length (Af truV L)]:List Own),zz.Stable:=by
    intro y hy
    simp only [List.mem_cons,List.not_mem_nil,or_false] at hy
    subst hy;exact AE.stable _ _ _ _ _ _
   have hstart:∀ γ,OwnR w (uz1.1.size) [(w.1.size,26,#[O U key,ψ A l.length cap])] [AE 2 w.1.size 94 8 L.length (Af truV L)] (fun _ _=>false) (⟨w.1.size + 1,89,3,8,[2],fun γ=>#[O U cnt,γ 2,O U mo]⟩:OutB) (fun _=>false) γ _:=fun γ=>OwnR.start hn0 hn0.1.size (lr _) (by intro y hy;simp only [List.mem_cons,List.not_mem_nil,or_false] at hy;subst hy <;> (simp only [];omega)) hcz rfl
   refine Ao [false,false,true,false,false,false,true,false,true] (ShL [(2,fun v=>∃ (A:Option Addr) (c:Nat),v = ψ A L.length c),(6,fun v=>v = O U mo)]) (fun D γ u=>OwnR w (uz1.1.size) [(w.1.size,26,#[O U key,ψ A l.length cap])] [AE 2 w.1.size 94 8 L.length (Af truV L)] (fun _ _=>false) (⟨w.1.size + 1,89,3,8,[2],fun γ=>#[O U cnt,γ 2,O U mo]⟩:OutB) D γ u) (by kernel_rfl) (by kernel_rfl) (fun γ=>by kernel_rfl) (fun D γ γ' w ha h=>h.loc hok ha) (ShL.inh _ ?inh) (fun γ=>hstart γ) (fun γ hγ=>?_)
   case inh=>
    intro y hy
    simp only [List.mem_cons,List.not_mem_nil,or_false] at hy
    rcases hy with rfl | rfl
    ·exact ⟨_,none,0,rfl⟩
    ·exact ⟨_,rfl⟩
   clear hstart hn0 hcz
   obtain ⟨A4,c4,g2⟩:∃ (A:Option Addr) (c:Nat),γ 2 = ψ A L.length c:=hγ 2 rfl
   have g6:γ 6 = O U mo:=hγ 6 rfl
   have g8:γ 8 = undef:=hγ 8 rfl
   clear hz3 X0 Y0 X1 Y1
   apply Exists.intro
   refine ⟨fun D=>?_,?_,?_⟩
   ·simp only [AP,cond_true,cond_false,Nat.reduceAdd,g2,g6,g8]
    iterate 9 (first
     | go_big_quiet_skip
     | (go_big_quiet_want
        go_big_quiet_op
        first
         | go_big_quiet_on
         | (apply Exists.intro
            refine ⟨fun u hu=>?_,?_⟩
            ·first
               | with_reducible rfl
               | (obtain ⟨X0,Y0,-⟩:=hu.1.1.1.rd;go_simp;first | done | with_reducible rfl)
            go_big_quiet_on)))
    exact wpQuiet_nil rfl
   ·simp only [AY,Nat.reduceAdd]
    refine ⟨fun D u hD hd hu=>?_,fun D u hD hd hu=>?_,fun D u hD hd hu=>?_,trivial⟩
    ·refine As ((CO.out u hu.1.1.1.1).mono ?_) rfl rfl rfl rfl (by kernel_rfl)
     rintro e w' ⟨v5,rfl,hrow,hb⟩
     obtain ⟨A5,c5,rfl,_,_⟩:=hrow.reads AD
     refine ⟨_,rfl,⟨A5,c5,rfl⟩,?_⟩
     exact hu.made hok hstab (z:=AE 2 w.1.size 94 8 L.length (Af truV L)) (by simp) (by intro y hy;simp only [List.mem_cons,List.not_mem_nil,or_false] at hy;subst hy;exact .inl rfl) hD (nq rfl) hb (AV hrow hu.1.1.1.1.size) (fun g hg=>Ef hrow g hg)
    ·exact As ((MC.out u hu.1.1.1.1).mono fun e w' ⟨he,hb⟩=>⟨_,he,rfl,hu.below hok hstab hb hD _ (nq rfl) (by intro y hy;simp only [List.mem_cons,List.not_mem_nil,or_false] at hy;subst hy;exact ⟨nq rfl,nq rfl⟩)⟩) rfl rfl rfl rfl (by kernel_rfl)
    ·obtain ⟨z,hz,hzs⟩:=hu.box
     refine AI hz rfl rfl (show _ = Value.agg #[O U cnt,ψ A4 L.length c4,O U mo] from rfl) (by kernel_rfl) hzs (by simp [Value.oneCell']) (fun w' hc hg=>⟨rfl,hu.stored hok hstab (by intro y hy;simp only [List.mem_cons,List.not_mem_nil,or_false] at hy;subst hy;exact ⟨nq rfl,nq rfl⟩) (by intro y hy;simp only [List.mem_cons,List.not_mem_nil,or_false] at hy;subst hy;exact hd { on:=2,ground:=Ground.phase } (by simp) rfl rfl) hg ?_ _⟩)
     show Aa w' (w.1.size + 1) 89 (#[O U cnt,γ 2,O U mo])
     simp only [g2]
     exact hc
   ·intro D uf hD hu
    have ho2:Bl uf w.1.size (γ 2) L:=(hu.1.at_ (z:=AE 2 w.1.size 94 8 L.length (Af truV L)) (by simp) (hD 2 (by simp) rfl)).1
    simp only [g2] at ho2
    obtain ⟨hres0,hf⟩:=hu.done (hD 8 (by simp) rfl)
    have hres:Aa uf (w.1.size + 1) 89 (#[O U cnt,γ 2,O U mo]):=hres0
    simp only [g2] at hres
    clear hres0
    have d0:=hres.cell 0
    have d1:=hres.cell 1
    have d2:=hres.cell 2
    go_wp2_with fail
    exact bodyPost_ret (v:=σ #[O U cnt,ψ A4 L.length c4,O U mo]) (by simp [results,results69,go_sem,d0,d1,d2]) rfl ⟨A4,c4,rfl,ho2,hf.1⟩
  ·rw [CX ht] at TS
   rw [if_neg (fun h=>ht h.1)]
   clear ht hr MC CO0
   go_enter func69,ntmps69
   go_wp2_with fail
   refine (IN.out _).mono ?_;rintro e w' ⟨rfl,rfl⟩
   go_wp2_with fail
   refine (TS.out _ K0.out.1).mono ?_;rintro e uz1 ⟨rfl,bz2⟩
   have hz3:=K0.out.below bz2
   clear bz2
   obtain ⟨X0,Y0,X1,Y1,-⟩:=hz3.rd
   go_wp2_with fail
   obtain ⟨w9,e9,⟨d0,d1,d2⟩,hb9,_⟩:=Jc (w:=w) (x:=O U 0) (y:=ψ none 0 0) (z:=O U 0) (hz3.at_ (p:=w.1.size + 1) (t:=89) (cs:=#[O U 0,ψ none 0 0,O U 0]) (by simp)) hz3.1 (by omega)
   rw [e9]
   exact bodyPost_ret (v:=σ #[O U 0,ψ none 0 0,O U 0]) (by simp [results,results69,go_sem,d0,d1,d2]) rfl ⟨none,0,rfl,World.ownsRow_nil w9 _ _ _,hb9⟩
 ·rw [decide_eq_false hr] at IN
  rw [if_neg (fun h=>hr h.2)]
  clear MC CO0 TS hr
  go_enter func69,ntmps69
  go_wp2_with fail
  refine (IN.out _).mono ?_;rintro e w' ⟨rfl,rfl⟩
  have hk0:=K0.out
  go_wp2_with fail
  have hc:=hk0.at_ (p:=w.1.size + 1) (t:=89) (cs:=#[O U 0,ψ none 0 0,O U 0]) (by simp)
  have d0:=hc.cell 0
  have d1:=hc.cell 1
  have d2:=hc.cell 2
  exact bodyPost_ret (v:=σ #[O U 0,ψ none 0 0,O U 0]) (by simp [results,results69,go_sem,d0,d1,d2]) rfl ⟨none,0,rfl,World.ownsRow_nil _ _ _ _,hk0.1⟩
theorem Jn (key:Int) (A:Option Addr) (l:List Int) (cap:Nat) (hcap:l.length <= cap) (cnt:Int) (B:Option Addr) (L:List Tru) (tc:Nat) (mac:Int) (w:World) (hn:l.length <= 1048576) (hA:Ints w U w.1.size A l) (hN:L.length <= 1048576) (hB:Trs w w.1.size B L) (hI:Cx L) (hc0:I64 cnt):
    Calls prog 222 #[σ #[O U key,ψ A l.length cap],σ #[O U cnt,ψ B L.length tc,O U mac]] w fun e w'=>e = τ (φ (Ho key l cnt L mac)) /\ Below w.1.size w w':=by
 have K0:=hid (show Kept w [(w.1.size + 1,89,#[O U cnt,ψ B L.length tc,O U mac]),(w.1.size,26,#[O U key,ψ A l.length cap])] _ from (((Kept.refl w).put1 _ _ #[O U key,ψ A l.length cap] rfl).put1 _ _ #[O U cnt,ψ B L.length tc,O U mac] (by simp)))
 have SO:=hid (fun (u:World) (hb:Below w.1.size w u)=>Gh key A l cap hcap cnt B L tc u hn ((hA.below hb (lr _)).more hb.size) hN ((hB.below hb (lr _)).more hb.size) hI hc0)
 clear hA hB hI hc0 hn hcap
 unfold Dq at SO
 unfold Ho
 by_cases h:Ba key l L /\ 0 <= cnt /\ cnt <= 10000
 ·rw [if_pos h] at SO
  rw [DQ h.1,decide_eq_true h.2,Bool.true_and,Bool.true_and]
  have hl:0 < L.length:=by have h1:=h.1.2.1;have h2:=h.1.1.2.1;omega
  have hl2:(0:Int) < L.length:=by omega
  simp only [] at SO
  generalize Fa key l cnt L = mo at SO |-
  clear h
  by_cases hm:mac = mo
  have z_1:=trivial;rotate_left;have z_2:=trivial;rotate_left
  all_goals
   first
    | guard_hyp z_1
      have hb:(mo == mac) = true:=beq_iff_eq.2 hm.symm
      rw [decide_eq_true hm]
    | have hb:(mo == mac) = false:=beq_false_of_ne (fun e=>hm e.symm)
      rw [decide_eq_false hm]
   clear hm
   go_enter func222,ntmps222
   go_wp2_with fail
   refine (SO.out _ K0.out.1).mono ?_;rintro e w1 ⟨A',c',rfl,hrow,b1⟩
   have h1:=K0.out.below b1
   clear b1 hrow
   have h2:=h1.put1 w1.1.size 89 #[O U cnt,ψ A' L.length c',O U mo] rfl
   have H2:=hid h2
   clear h1 K0
   go_upto_region 2 with fail
   obtain ⟨X0,Y0,X1,Y1,X2,Y2,-⟩:=h2.rd
   clear h2
   go_wp2_with fail
   go_ret
   exact ⟨rfl,H2.out.1⟩
 ·rw [if_neg h] at SO
  rw [show (Dj key l L && decide (0 <= cnt /\ cnt <= 10000) && decide (mac = Fa key l cnt L)) = false from by
   by_cases ht:Ba key l L
   ·rw [decide_eq_false (fun h2=>h ⟨ht,h2⟩),Bool.and_false,Bool.false_and]
   ·rw [CX ht,Bool.false_and,Bool.false_and]]
  simp only [] at SO
  clear h
  go_enter func222,ntmps222
  go_wp2_with fail
  refine (SO.out _ K0.out.1).mono ?_;rintro e w1 ⟨A',c',rfl,hrow,b1⟩
  have h1:=K0.out.below b1
  clear b1 hrow
  have h2:=h1.put1 w1.1.size 89 #[O U 0,ψ A' 0 c',O U 0] rfl
  have H2:=hid h2
  clear h1 K0
  go_upto_region 2 with fail
  obtain ⟨X0,Y0,X1,Y1,X2,Y2,-⟩:=h2.rd
  clear h2
  go_wp2_with fail
  go_ret
  exact ⟨rfl,H2.out.1⟩

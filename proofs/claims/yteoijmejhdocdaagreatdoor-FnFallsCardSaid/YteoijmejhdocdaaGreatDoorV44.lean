import Derived.Test.YteoijmejhdocdaaGreatDoorV42
namespace Go.Proofs.YteoijmejhdocdaaGreatDoor.Mx
open Go.ChangeShapes Go.WideShapes Go.ChangeAt Go.RowKit
set_option linter.unusedVariables false
open Go.Lib (hid)
open Go.Proofs.Tryz
set_option maxRecDepth 20000
set_option maxHeartbeats 64000000
open Value renaming int → O, slice → ψ, bool → φ, agg → σ
open IntKind renaming i64 → U
open Ending renaming returned → τ
def PN (E:World -> Prop):Prop:=∀ (x:VolG) (v:Value) (w:World) (a:Int),x.Short -> x.Int64 -> RdG w w.1.size x v -> E w -> 
 Calls prog 27 #[v,O U a] w (Ans2 w (Do x a))
def Ra (E:World -> Prop):Prop:=∀ (x:VolG) (v:Value) (w:World) ,x.Short -> x.Int64 -> RdG w w.1.size x v -> E w -> 
 Calls prog 30 #[v] w (Ans2 w (Dt x ))
def QN (E:World -> Prop):Prop:=∀ (x:VolG) (v:Value) (w:World) (a:Int),x.Short -> x.Int64 -> RdG w w.1.size x v -> E w -> 
 Calls prog 33 #[v,O U a] w (Ans2 w (CN x a))
theorem Jq (key:Int) (A D:Option Addr) (l:List Int) (cap:Nat) (hcap:l.length <= cap) (S:List SlN) (cap2:Nat) (hcap2:S.length <= cap2) (n:Int) (w:World) (hn:l.length <= 1048576) (hA:Ints w U w.1.size A l) (hN:S.length <= 1048576) (hD:DM w w.1.size D S) (hF:∀ i,i < S.length -> (S.getD i default).Fits):
    Calls prog 90 #[σ #[O U key,ψ A l.length cap],ψ D S.length cap2,O U n] w fun e w'=>e = τ (O U (BK key l S n)) /\ Below w.1.size w w':=by
 have K0:=hid (show Kept w [(w.1.size,26,#[O U key,ψ A l.length cap])] _ from (Kept.refl w).put1 _ _ #[O U key,ψ A l.length cap] rfl)
 have SO:=hid (fun (s:SlN) (B:Option Addr) (tc:Nat) (C:Option Addr) (cc:Nat) (hs:s.Fits) (v:World) (hr:SlR v v.1.size B tc C cc s) (u:World) (hv:Below v.1.size v u) (hb:Below w.1.size w u)=>
  Ji key A l cap hcap s.count B s.trusts tc s.mac C s.cells cc u hn ((hA.below hb (lr _)).more hb.size) hs.1 ((hr.1.below hv (lr _)).more hv.size) hs.2.2.1 hs.2.2.2 hs.2.1 ((hr.2.below hv (lr _)).more hv.size))
 have HD:=hid hD
 have HF:=hid (Ry hF)
 clear hA hD hF hn hcap
 go_enter func90,ntmps90
 go_wp2_with fail
 go_loopw [7] (fun i wr=>∃ j:Nat,j <= S.length + 1 /\ i = O U j /\ EV key l n S j /\ Kept w [(w.1.size,26,#[O U key,ψ A l.length cap])] wr) (fun i _=>S.length + 2 - (intOf i).toNat)
 case atStart=>exact ⟨0,Nat.zero_le _,rfl,fun i hi=>absurd hi (by omega),K0.out⟩
 case round=>
  obtain ⟨j,hj,rfl,hup,hz⟩:=hrel
  have HU:=hid hup
  clear hup
  by_cases hlt:j < S.length
  ·obtain ⟨b,off,rfl,B0,t0,C0,c0,B1,t1,C1,c1,hr0,hr1,hcall⟩:=DM.two ((HD.out.below hz.1 (lr _)).more hz.1.size) j hlt
   have hlt':(j:Int) < S.length:=by omega
   have hk0:(0:Int) <= j:=by omega
   have TB0:=hid (SO.out _ B0 t0 C0 c0 (HF.out j) wr hr0)
   have TB1:=hid (SO.out _ B1 t1 C1 c1 (HF.out (j + 1)) wr hr1)
   have TC:=hid hcall
   have HC0:=hid (show Bg key l n (S.getD j default) = (Fv key l (S.getD j default).count (S.getD j default).trusts (S.getD j default).mac (S.getD j default).cells && decide ((S.getD j default).count = n)) from rfl)
   have HC1:=hid (show Bg key l n (S.getD (j + 1) default) = (Fv key l (S.getD (j + 1) default).count (S.getD (j + 1) default).trusts (S.getD (j + 1) default).mac (S.getD (j + 1) default).cells && decide ((S.getD (j + 1) default).count = n)) from rfl)
   have AT0:=hid (fun (h:Bg key l n (S.getD j default) = true)=>Fb hlt h HU.out)
   have NX0:=hid (fun (h:Bg key l n (S.getD j default) = false)=>HU.out.succ h)
   have AT1:=hid (fun (hu:EV key l n S (j + 1)) (h:Bg key l n (S.getD (j + 1) default) = true)=>Fb (QZ h) h hu)
   have NX1:=hid (fun (hu:EV key l n S (j + 1)) (h:Bg key l n (S.getD (j + 1) default) = false)=>hu.succ h)
   clear hr0 hr1 hcall
   generalize Fv key l (S.getD j default).count (S.getD j default).trusts (S.getD j default).mac (S.getD j default).cells = sb0 at TB0 HC0
   generalize Bg key l n (S.getD j default) = ch0 at HC0 AT0 NX0
   generalize Fv key l (S.getD (j + 1) default).count (S.getD (j + 1) default).trusts (S.getD (j + 1) default).mac (S.getD (j + 1) default).cells = sb1 at TB1 HC1
   generalize Bg key l n (S.getD (j + 1) default) = ch1 at HC1 AT1 NX1
   generalize (S.getD j default).count = sc0 at TC TB0 HC0
   generalize (S.getD j default).mac = sm0 at TC TB0
   generalize (S.getD j default).trusts.length = tl0 at TC TB0
   generalize (S.getD j default).cells.length = cl0 at TC TB0
   generalize (S.getD (j + 1) default).count = sc1 at TC TB1 HC1
   generalize (S.getD (j + 1) default).mac = sm1 at TC TB1
   generalize (S.getD (j + 1) default).trusts.length = tl1 at TC TB1
   generalize (S.getD (j + 1) default).cells.length = cl1 at TC TB1
   have hcj:¬ cap2 = j:=by omega
   have hjl:(j:Int) <= S.length:=by omega
   have hw1:IntKind.i64.wrap ((j:Int) + 1) = (j + 1:Nat):=by rw [IntWalk.i64_in _ (by omega)];omega
   have hw2:IntKind.i64.wrap ((j:Int) + 2) = (j + 2:Nat):=by rw [IntWalk.i64_in _ (by omega)];omega
   have i0:∀ w:World,(Instr.index 98 (σ #[O U sc0,ψ B0 tl0 t0,O U sm0,ψ C0 cl0 c0,O U sc1,ψ B1 tl1 t1,O U sm1,ψ C1 cl1 c1]) (O U 0)).run prog w = .ok (σ #[O U sc0,ψ B0 tl0 t0,O U sm0,ψ C0 cl0 c0]) w:=fun _=>by kernel_rfl
   have i1:∀ w:World,(Instr.index 98 (σ #[O U sc0,ψ B0 tl0 t0,O U sm0,ψ C0 cl0 c0,O U sc1,ψ B1 tl1 t1,O U sm1,ψ C1 cl1 c1]) (O U 1)).run prog w = .ok (σ #[O U sc1,ψ B1 tl1 t1,O U sm1,ψ C1 cl1 c1]) w:=fun _=>by kernel_rfl
   go_wp2_with fail
   refine (TC.out _).mono ?_;rintro e w1 ⟨rfl,b1⟩
   have H1:=hid (hz.below b1)
   have B1:=hid b1
   clear b1 hz TC
   go_wp2_with fail
   go_loopw [20] (fun i wi=>(i = O U 0 /\ EV key l n S j /\ Kept w [(w.1.size,26,#[O U key,ψ A l.length cap])] wi /\ Below wr.1.size wr wi) \/ (i = O U 1 /\ EV key l n S (j + 1) /\ Kept w [(w.1.size,26,#[O U key,ψ A l.length cap])] wi /\ Below wr.1.size wr wi) \/ (i = O U 2 /\ EV key l n S (j + 2) /\ Kept w [(w.1.size,26,#[O U key,ψ A l.length cap])] wi /\ Below wr.1.size wr wi)) (fun i _=>2 - (intOf i).toNat)
   case atStart=>exact .inl ⟨rfl,HU.out,H1.out,B1.out⟩
   case round=>
    clear H1 B1 HU
    obtain h | h | h:=hrel
    ·obtain ⟨rfl,hnx,hz,hbi⟩:=h
     clear hnx TB1 AT1 NX1 HC1
     rcases Bool.eq_false_or_eq_true (decide (sc0 = n)) with hd | hd
     ·have hcn:sc0 = n:=of_decide_eq_true hd
      have hbe:(sc0 == n) = true:=beq_iff_eq.2 hcn
      rcases sb0 with _ | _
      have z_1:=trivial;rotate_left;have z_2:=trivial;rotate_left
      all_goals
       first
        | guard_hyp z_1
          have NX:=hid (NX0.out (by rw [HC0.out,Bool.false_and]))
        | have AT:=hid (AT0.out (by rw [HC0.out,decide_eq_true hcn];rfl))
       clear hd hcn
       go_upto_region 7 with fail
       have hz2:=hz.put1 wr.1.size 91 #[O U sc0,ψ B0 tl0 t0,O U sm0,ψ C0 cl0 c0] rfl
       have hb2:=hbi.trans ((Ap wr (.cells #[O U sc0,ψ B0 tl0 t0,O U sm0,ψ C0 cl0 c0] 91)).mono hbi.size)
       obtain ⟨X0,Y0,X1,Y1,-⟩:=hz2.rd
       have HZ:=hid hz2
       have HB:=hid hb2
       clear hz hz2 hbi hb2
       go_wp2_with fail
       refine (TB0.out _ HB.out HZ.out.1).mono ?_;rintro e w2 ⟨rfl,b2⟩
       first
        | guard_hyp z_1
          have hz3:=(HZ.out.below b2).sub (L':=[(w.1.size,26,#[O U key,ψ A l.length cap])]) (by intro y hy;simp at hy |-;right;exact hy)
          have hb3:=HB.out.trans (b2.mono HB.out.size)
          clear b2 X0 Y0 X1 Y1 HZ HB
        | have hz3:=HZ.out.below b2
          clear b2 X0 Y0 X1 Y1 HZ
       go_wp2_with fail
       first
        | guard_hyp z_1
          go_roundw
          case rel=>exact .inr (.inl ⟨rfl,NX.out,hz3,hb3⟩)
          case measure=>simp [intOf]
        | go_ret
          exact ⟨by rw [AT.out];rfl,hz3.1⟩
     ·have hcn:¬ sc0 = n:=of_decide_eq_false hd
      have hbe:(sc0 == n) = false:=beq_false_of_ne hcn
      have NX:=hid (NX0.out (by rw [HC0.out,hd,Bool.and_false]))
      clear hd hcn
      go_upto_region 7 with fail
      have hz2:=hz.put1 wr.1.size 91 #[O U sc0,ψ B0 tl0 t0,O U sm0,ψ C0 cl0 c0] rfl
      have hb2:=hbi.trans ((Ap wr (.cells #[O U sc0,ψ B0 tl0 t0,O U sm0,ψ C0 cl0 c0] 91)).mono hbi.size)
      obtain ⟨X0,Y0,X1,Y1,-⟩:=hz2.rd
      have HZ:=hid hz2
      have HB:=hid hb2
      clear hz hz2 hbi hb2
      go_wp2_with fail
      have hz3:=HZ.out.sub (L':=[(w.1.size,26,#[O U key,ψ A l.length cap])]) (by intro y hy;simp at hy |-;right;exact hy)
      have hb3:=HB.out
      clear X0 Y0 X1 Y1 HZ HB
      go_roundw
      case rel=>exact .inr (.inl ⟨rfl,NX.out,hz3,hb3⟩)
      case measure=>simp [intOf]
    ·obtain ⟨rfl,hnx,hz,hbi⟩:=h
     have AT2:=hid (AT1.out hnx)
     have NX2:=hid (NX1.out hnx)
     clear AT1 NX1
     have AT1:=hid AT2.out
     have NX1:=hid NX2.out
     clear hnx TB0 AT0 NX0 HC0 AT2 NX2
     rcases Bool.eq_false_or_eq_true (decide (sc1 = n)) with hd | hd
     ·have hcn:sc1 = n:=of_decide_eq_true hd
      have hbe:(sc1 == n) = true:=beq_iff_eq.2 hcn
      rcases sb1 with _ | _
      have z_3:=trivial;rotate_left;have z_4:=trivial;rotate_left
      all_goals
       first
        | guard_hyp z_3
          have NX:=hid (NX1.out (by rw [HC1.out,Bool.false_and]))
        | have AT:=hid (AT1.out (by rw [HC1.out,decide_eq_true hcn];rfl))
       clear hd hcn
       go_upto_region 7 with fail
       have hz2:=hz.put1 wr.1.size 91 #[O U sc1,ψ B1 tl1 t1,O U sm1,ψ C1 cl1 c1] rfl
       have hb2:=hbi.trans ((Ap wr (.cells #[O U sc1,ψ B1 tl1 t1,O U sm1,ψ C1 cl1 c1] 91)).mono hbi.size)
       obtain ⟨X0,Y0,X1,Y1,-⟩:=hz2.rd
       have HZ:=hid hz2
       have HB:=hid hb2
       clear hz hz2 hbi hb2
       go_wp2_with fail
       refine (TB1.out _ HB.out HZ.out.1).mono ?_;rintro e w2 ⟨rfl,b2⟩
       first
        | guard_hyp z_3
          have hz3:=(HZ.out.below b2).sub (L':=[(w.1.size,26,#[O U key,ψ A l.length cap])]) (by intro y hy;simp at hy |-;right;exact hy)
          have hb3:=HB.out.trans (b2.mono HB.out.size)
          clear b2 X0 Y0 X1 Y1 HZ HB
        | have hz3:=HZ.out.below b2
          clear b2 X0 Y0 X1 Y1 HZ
       go_wp2_with fail
       first
        | guard_hyp z_3
          go_roundw
          case rel=>exact .inr (.inr ⟨rfl,NX.out,hz3,hb3⟩)
          case measure=>simp [intOf]
        | go_ret
          exact ⟨by rw [AT.out];rfl,hz3.1⟩
     ·have hcn:¬ sc1 = n:=of_decide_eq_false hd
      have hbe:(sc1 == n) = false:=beq_false_of_ne hcn
      have NX:=hid (NX1.out (by rw [HC1.out,hd,Bool.and_false]))
      clear hd hcn
      go_upto_region 7 with fail
      have hz2:=hz.put1 wr.1.size 91 #[O U sc1,ψ B1 tl1 t1,O U sm1,ψ C1 cl1 c1] rfl
      have hb2:=hbi.trans ((Ap wr (.cells #[O U sc1,ψ B1 tl1 t1,O U sm1,ψ C1 cl1 c1] 91)).mono hbi.size)
      obtain ⟨X0,Y0,X1,Y1,-⟩:=hz2.rd
      have HZ:=hid hz2
      have HB:=hid hb2
      clear hz hz2 hbi hb2
      go_wp2_with fail
      have hz3:=HZ.out.sub (L':=[(w.1.size,26,#[O U key,ψ A l.length cap])]) (by intro y hy;simp at hy |-;right;exact hy)
      have hb3:=HB.out
      clear X0 Y0 X1 Y1 HZ HB
      go_roundw
      case rel=>exact .inr (.inr ⟨rfl,NX.out,hz3,hb3⟩)
      case measure=>simp [intOf]
    ·obtain ⟨rfl,hnx,hz,hbi⟩:=h
     have NX:=hid hnx
     clear hnx TB0 TB1 AT0 AT1 NX0 NX1 HC0 HC1 hbi
     go_wp2_with fail
     go_roundw
     case rel=>exact ⟨j + 2,by omega,by go_num,NX.out,hz⟩
     case measure=>simp [intOf];omega
  ·have HX:=hid (Hz (key:=key) (l:=l) (n:=n) (S:=S) (fun q hq=>HU.out q (by omega)))
   clear HU
   have hge:¬ (j:Int) < S.length:=by omega
   go_wp2_with fail
   go_ret
   exact ⟨by rw [HX.out];rfl,hz.1⟩

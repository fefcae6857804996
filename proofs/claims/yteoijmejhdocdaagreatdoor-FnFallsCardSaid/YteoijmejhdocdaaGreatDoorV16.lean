import Derived.Test.YteoijmejhdocdaaGreatDoorV14
namespace Go.Proofs.YteoijmejhdocdaaGreatDoor.Mx
open Go.ChangeShapes Go.WideShapes Go.ChangeAt Go.RowKit
set_option linter.unusedVariables false
open Go.Lib (hid)
open Go.Proofs.Tryz
set_option maxRecDepth 20000
set_option maxHeartbeats 64000000
open Value renaming int → O, slice → ψ, bool → φ, agg → σ
open IntKind renaming i64 → U
open Ending renaming returned → τ
theorem Ih (key x ct cv value:Int) (A:Option Addr) (l:List Int) (cap:Nat) (t0 t1 t2 t3 t4 t5 t6:Int) (w:World) (hn:l.length <= maxLen) (hcap:l.length <= cap) (hA:Ints w U w.1.size A l) (hr:0 <= Am key l x) (ht:Bk key l (Am key l x) ⟨t0,t1,t2,t3,t4,t5,t6,true⟩ ) (hc:AO ct cv) (hv:MM value):
    Calls prog 129 #[σ #[O U key,ψ A l.length cap],σ #[O U t0,O U t1,O U t2,O U t3,O U t4,O U t5,O U t6,φ true],O U x,σ #[O U ct,O U cv],O U value] w fun e w'=>e = τ (.tuple #[σ #[O U t0,O U t1,O U t2,O U t3,O U t4,O U t5,O U t6,φ true],σ #[O U ct,O U cv],O U 0,O U 2]) /\ Below w.1.size w w':=by
 have k0:=(((((Kept.refl w).new 26 #[O U key,ψ A l.length cap]).new 94 #[O U t0,O U t1,O U t2,O U t3,O U t4,O U t5,O U t6,φ true]).new 118 #[O U ct,O U cv]).new 94 #[O U 0,O U 0,O U 0,O U 0,O U 0,O U 0,O U 0,φ false]).new 118 #[O U 0,O U 0]
 rw [show ((((w.alloc (.cells #[O U key,ψ A l.length cap] 26)).alloc (.cells #[O U t0,O U t1,O U t2,O U t3,O U t4,O U t5,O U t6,φ true] 94)).alloc (.cells #[O U ct,O U cv] 118)).alloc (.cells #[O U 0,O U 0,O U 0,O U 0,O U 0,O U 0,O U 0,φ false] 94)).1.size = w.1.size + 1 + 1 + 1 + 1 by simp,show (((w.alloc (.cells #[O U key,ψ A l.length cap] 26)).alloc (.cells #[O U t0,O U t1,O U t2,O U t3,O U t4,O U t5,O U t6,φ true] 94)).alloc (.cells #[O U ct,O U cv] 118)).1.size = w.1.size + 1 + 1 + 1 by simp,show ((w.alloc (.cells #[O U key,ψ A l.length cap] 26)).alloc (.cells #[O U t0,O U t1,O U t2,O U t3,O U t4,O U t5,O U t6,φ true] 94)).1.size = w.1.size + 1 + 1 by simp,show (w.alloc (.cells #[O U key,ψ A l.length cap] 26)).1.size = w.1.size + 1 by simp] at k0
 have R:=hid (fun (u:World) (hb:Below w.1.size w u)=>Be key x A l cap u hn hcap ((hA.below hb (lr _)).more hb.size))
 have TO:=hid (fun (r:Int) (u:World) (h:Kept w [(w.1.size + 1 + 1 + 1 + 1,118,#[O U 0,O U 0]),(w.1.size + 1 + 1 + 1,94,#[O U 0,O U 0,O U 0,O U 0,O U 0,O U 0,O U 0,φ false]),(w.1.size + 1 + 1,118,#[O U ct,O U cv]),(w.1.size + 1,94,#[O U t0,O U t1,O U t2,O U t3,O U t4,O U t5,O U t6,φ true]),(w.1.size,26,#[O U key,ψ A l.length cap])] u)=>(AX key r A l cap t0 t1 t2 t3 t4 t5 t6 true u hn ((hA.below h.1 (lr _)).more h.1.size)).mono (fun e w' ⟨he,hb⟩=>(⟨he,h.below hb⟩:_ /\ Kept w [(w.1.size + 1 + 1 + 1 + 1,118,#[O U 0,O U 0]),(w.1.size + 1 + 1 + 1,94,#[O U 0,O U 0,O U 0,O U 0,O U 0,O U 0,O U 0,φ false]),(w.1.size + 1 + 1,118,#[O U ct,O U cv]),(w.1.size + 1,94,#[O U t0,O U t1,O U t2,O U t3,O U t4,O U t5,O U t6,φ true]),(w.1.size,26,#[O U key,ψ A l.length cap])] w')))
 have CO:=hid (fun (u:World) (h:Kept w [(w.1.size + 1 + 1 + 1 + 1,118,#[O U 0,O U 0]),(w.1.size + 1 + 1 + 1,94,#[O U 0,O U 0,O U 0,O U 0,O U 0,O U 0,O U 0,φ false]),(w.1.size + 1 + 1,118,#[O U ct,O U cv]),(w.1.size + 1,94,#[O U t0,O U t1,O U t2,O U t3,O U t4,O U t5,O U t6,φ true]),(w.1.size,26,#[O U key,ψ A l.length cap])] u)=>(AQ ct cv u).mono (fun e w' ⟨he,hb⟩=>(⟨he,h.below hb⟩:_ /\ Kept w [(w.1.size + 1 + 1 + 1 + 1,118,#[O U 0,O U 0]),(w.1.size + 1 + 1 + 1,94,#[O U 0,O U 0,O U 0,O U 0,O U 0,O U 0,O U 0,φ false]),(w.1.size + 1 + 1,118,#[O U ct,O U cv]),(w.1.size + 1,94,#[O U t0,O U t1,O U t2,O U t3,O U t4,O U t5,O U t6,φ true]),(w.1.size,26,#[O U key,ψ A l.length cap])] w')))
 have K0:=hid k0
 clear k0
 clear hA
 have hd:decide (Am key l x < 0) = false:=decide_eq_false (by omega)
 have PT:=hid (TO.out (Am key l x))
 rw [Co ht] at PT
 have PC:=CO
 rw [decide_eq_true hc] at PC
 have htm:=ht.2.2.1
 generalize Am key l x = r at R hd PT
 clear hr ht hc TO CO
 unfold isTm at htm
 by_cases hv3:value = -1
 have z_1:=trivial;rotate_left;have z_2:=trivial;rotate_left
 all_goals
  first
   | guard_hyp z_1
     subst hv3
   | have HVL:=hid (show true = decide (BP value) from (decide_eq_true (by rcases hv with h | h;exact absurd h hv3;exact h)).symm)
     have hv1:(value == -1) = false:=by simpa using hv3
     have hv2:(value != -1) = true:=by simpa using hv3
  clear hv
  go_enter func129,ntmps129
  go_wp2_with fail
  refine (R.out _ K0.out.1).mono ?_;rintro e wz ⟨rfl,b1⟩
  have hz:=K0.out.below b1
  clear b1 R K0
  have p0:wz.cell? ⟨w.1.size,0,none⟩ = some (O U key):=hz.cell (p:=w.1.size) (t:=26) (cs:=#[O U key,ψ A l.length cap]) (by simp) 0
  have p1:wz.cell? ⟨w.1.size,1,none⟩ = some (ψ A l.length cap):=hz.cell (p:=w.1.size) (t:=26) (cs:=#[O U key,ψ A l.length cap]) (by simp) 1
  have q0:wz.cell? ⟨w.1.size + 1,0,none⟩ = some (O U t0):=hz.cell (p:=w.1.size + 1) (t:=94) (cs:=#[O U t0,O U t1,O U t2,O U t3,O U t4,O U t5,O U t6,φ true]) (by simp) 0
  have q1:wz.cell? ⟨w.1.size + 1,1,none⟩ = some (O U t1):=hz.cell (p:=w.1.size + 1) (t:=94) (cs:=#[O U t0,O U t1,O U t2,O U t3,O U t4,O U t5,O U t6,φ true]) (by simp) 1
  have q2:wz.cell? ⟨w.1.size + 1,2,none⟩ = some (O U t2):=hz.cell (p:=w.1.size + 1) (t:=94) (cs:=#[O U t0,O U t1,O U t2,O U t3,O U t4,O U t5,O U t6,φ true]) (by simp) 2
  have q3:wz.cell? ⟨w.1.size + 1,3,none⟩ = some (O U t3):=hz.cell (p:=w.1.size + 1) (t:=94) (cs:=#[O U t0,O U t1,O U t2,O U t3,O U t4,O U t5,O U t6,φ true]) (by simp) 3
  have q4:wz.cell? ⟨w.1.size + 1,4,none⟩ = some (O U t4):=hz.cell (p:=w.1.size + 1) (t:=94) (cs:=#[O U t0,O U t1,O U t2,O U t3,O U t4,O U t5,O U t6,φ true]) (by simp) 4
  have q5:wz.cell? ⟨w.1.size + 1,5,none⟩ = some (O U t5):=hz.cell (p:=w.1.size + 1) (t:=94) (cs:=#[O U t0,O U t1,O U t2,O U t3,O U t4,O U t5,O U t6,φ true]) (by simp) 5
  have q6:wz.cell? ⟨w.1.size + 1,6,none⟩ = some (O U t6):=hz.cell (p:=w.1.size + 1) (t:=94) (cs:=#[O U t0,O U t1,O U t2,O U t3,O U t4,O U t5,O U t6,φ true]) (by simp) 6
  have q7:wz.cell? ⟨w.1.size + 1,7,none⟩ = some (φ true):=hz.cell (p:=w.1.size + 1) (t:=94) (cs:=#[O U t0,O U t1,O U t2,O U t3,O U t4,O U t5,O U t6,φ true]) (by simp) 7
  go_wp2_with fail
  refine (PT.out _ hz).mono ?_;rintro e wy ⟨rfl,hy⟩
  clear hz p0 p1 q0 q1 q2 q3 q4 q5 q6 q7 PT
  have s0:wy.cell? ⟨w.1.size + 1 + 1,0,none⟩ = some (O U ct):=hy.cell (p:=w.1.size + 1 + 1) (t:=118) (cs:=#[O U ct,O U cv]) (by simp) 0
  have s1:wy.cell? ⟨w.1.size + 1 + 1,1,none⟩ = some (O U cv):=hy.cell (p:=w.1.size + 1 + 1) (t:=118) (cs:=#[O U ct,O U cv]) (by simp) 1
  go_wp2_with fail
  refine (PC.out _ hy).mono ?_;rintro e wx ⟨rfl,hx⟩
  clear hy s0 s1 PC
  first
   | guard_hyp z_1
   | go_wp2_with fail
     refine (Hg _ _ _ HVL.out).mono ?_;rintro e w' ⟨rfl,rfl⟩
  have q0:wx.cell? ⟨w.1.size + 1,0,none⟩ = some (O U t0):=hx.cell (p:=w.1.size + 1) (t:=94) (cs:=#[O U t0,O U t1,O U t2,O U t3,O U t4,O U t5,O U t6,φ true]) (by simp) 0
  have q1:wx.cell? ⟨w.1.size + 1,1,none⟩ = some (O U t1):=hx.cell (p:=w.1.size + 1) (t:=94) (cs:=#[O U t0,O U t1,O U t2,O U t3,O U t4,O U t5,O U t6,φ true]) (by simp) 1
  have q2:wx.cell? ⟨w.1.size + 1,2,none⟩ = some (O U t2):=hx.cell (p:=w.1.size + 1) (t:=94) (cs:=#[O U t0,O U t1,O U t2,O U t3,O U t4,O U t5,O U t6,φ true]) (by simp) 2
  have q3:wx.cell? ⟨w.1.size + 1,3,none⟩ = some (O U t3):=hx.cell (p:=w.1.size + 1) (t:=94) (cs:=#[O U t0,O U t1,O U t2,O U t3,O U t4,O U t5,O U t6,φ true]) (by simp) 3
  have q4:wx.cell? ⟨w.1.size + 1,4,none⟩ = some (O U t4):=hx.cell (p:=w.1.size + 1) (t:=94) (cs:=#[O U t0,O U t1,O U t2,O U t3,O U t4,O U t5,O U t6,φ true]) (by simp) 4
  have q5:wx.cell? ⟨w.1.size + 1,5,none⟩ = some (O U t5):=hx.cell (p:=w.1.size + 1) (t:=94) (cs:=#[O U t0,O U t1,O U t2,O U t3,O U t4,O U t5,O U t6,φ true]) (by simp) 5
  have q6:wx.cell? ⟨w.1.size + 1,6,none⟩ = some (O U t6):=hx.cell (p:=w.1.size + 1) (t:=94) (cs:=#[O U t0,O U t1,O U t2,O U t3,O U t4,O U t5,O U t6,φ true]) (by simp) 6
  have q7:wx.cell? ⟨w.1.size + 1,7,none⟩ = some (φ true):=hx.cell (p:=w.1.size + 1) (t:=94) (cs:=#[O U t0,O U t1,O U t2,O U t3,O U t4,O U t5,O U t6,φ true]) (by simp) 7
  have s0:wx.cell? ⟨w.1.size + 1 + 1,0,none⟩ = some (O U ct):=hx.cell (p:=w.1.size + 1 + 1) (t:=118) (cs:=#[O U ct,O U cv]) (by simp) 0
  have s1:wx.cell? ⟨w.1.size + 1 + 1,1,none⟩ = some (O U cv):=hx.cell (p:=w.1.size + 1 + 1) (t:=118) (cs:=#[O U ct,O U cv]) (by simp) 1
  have r0:wx.cell? ⟨w.1.size + 1 + 1 + 1,0,none⟩ = some (O U 0):=hx.cell (p:=w.1.size + 1 + 1 + 1) (t:=94) (cs:=#[O U 0,O U 0,O U 0,O U 0,O U 0,O U 0,O U 0,φ false]) (by simp) 0
  have r1:wx.cell? ⟨w.1.size + 1 + 1 + 1,1,none⟩ = some (O U 0):=hx.cell (p:=w.1.size + 1 + 1 + 1) (t:=94) (cs:=#[O U 0,O U 0,O U 0,O U 0,O U 0,O U 0,O U 0,φ false]) (by simp) 1
  have r2:wx.cell? ⟨w.1.size + 1 + 1 + 1,2,none⟩ = some (O U 0):=hx.cell (p:=w.1.size + 1 + 1 + 1) (t:=94) (cs:=#[O U 0,O U 0,O U 0,O U 0,O U 0,O U 0,O U 0,φ false]) (by simp) 2
  have r3:wx.cell? ⟨w.1.size + 1 + 1 + 1,3,none⟩ = some (O U 0):=hx.cell (p:=w.1.size + 1 + 1 + 1) (t:=94) (cs:=#[O U 0,O U 0,O U 0,O U 0,O U 0,O U 0,O U 0,φ false]) (by simp) 3
  have r4:wx.cell? ⟨w.1.size + 1 + 1 + 1,4,none⟩ = some (O U 0):=hx.cell (p:=w.1.size + 1 + 1 + 1) (t:=94) (cs:=#[O U 0,O U 0,O U 0,O U 0,O U 0,O U 0,O U 0,φ false]) (by simp) 4
  have r5:wx.cell? ⟨w.1.size + 1 + 1 + 1,5,none⟩ = some (O U 0):=hx.cell (p:=w.1.size + 1 + 1 + 1) (t:=94) (cs:=#[O U 0,O U 0,O U 0,O U 0,O U 0,O U 0,O U 0,φ false]) (by simp) 5
  have r6:wx.cell? ⟨w.1.size + 1 + 1 + 1,6,none⟩ = some (O U 0):=hx.cell (p:=w.1.size + 1 + 1 + 1) (t:=94) (cs:=#[O U 0,O U 0,O U 0,O U 0,O U 0,O U 0,O U 0,φ false]) (by simp) 6
  have r7:wx.cell? ⟨w.1.size + 1 + 1 + 1,7,none⟩ = some (φ false):=hx.cell (p:=w.1.size + 1 + 1 + 1) (t:=94) (cs:=#[O U 0,O U 0,O U 0,O U 0,O U 0,O U 0,O U 0,φ false]) (by simp) 7
  have fr0:=hx.frozen (p:=w.1.size + 1 + 1 + 1) (t:=94) (cs:=#[O U 0,O U 0,O U 0,O U 0,O U 0,O U 0,O U 0,φ false]) (by simp) 0
  have fr1:=hx.frozen (p:=w.1.size + 1 + 1 + 1) (t:=94) (cs:=#[O U 0,O U 0,O U 0,O U 0,O U 0,O U 0,O U 0,φ false]) (by simp) 1
  have fr2:=hx.frozen (p:=w.1.size + 1 + 1 + 1) (t:=94) (cs:=#[O U 0,O U 0,O U 0,O U 0,O U 0,O U 0,O U 0,φ false]) (by simp) 2
  have fr3:=hx.frozen (p:=w.1.size + 1 + 1 + 1) (t:=94) (cs:=#[O U 0,O U 0,O U 0,O U 0,O U 0,O U 0,O U 0,φ false]) (by simp) 3
  have fr4:=hx.frozen (p:=w.1.size + 1 + 1 + 1) (t:=94) (cs:=#[O U 0,O U 0,O U 0,O U 0,O U 0,O U 0,O U 0,φ false]) (by simp) 4
  have fr5:=hx.frozen (p:=w.1.size + 1 + 1 + 1) (t:=94) (cs:=#[O U 0,O U 0,O U 0,O U 0,O U 0,O U 0,O U 0,φ false]) (by simp) 5
  have fr6:=hx.frozen (p:=w.1.size + 1 + 1 + 1) (t:=94) (cs:=#[O U 0,O U 0,O U 0,O U 0,O U 0,O U 0,O U 0,φ false]) (by simp) 6
  have fr7:=hx.frozen (p:=w.1.size + 1 + 1 + 1) (t:=94) (cs:=#[O U 0,O U 0,O U 0,O U 0,O U 0,O U 0,O U 0,φ false]) (by simp) 7
  have z0:wx.cell? ⟨w.1.size + 1 + 1 + 1 + 1,0,none⟩ = some (O U 0):=hx.cell (p:=w.1.size + 1 + 1 + 1 + 1) (t:=118) (cs:=#[O U 0,O U 0]) (by simp) 0
  have z1:wx.cell? ⟨w.1.size + 1 + 1 + 1 + 1,1,none⟩ = some (O U 0):=hx.cell (p:=w.1.size + 1 + 1 + 1 + 1) (t:=118) (cs:=#[O U 0,O U 0]) (by simp) 1
  have fz0:=hx.frozen (p:=w.1.size + 1 + 1 + 1 + 1) (t:=118) (cs:=#[O U 0,O U 0]) (by simp) 0
  have fz1:=hx.frozen (p:=w.1.size + 1 + 1 + 1 + 1) (t:=118) (cs:=#[O U 0,O U 0]) (by simp) 1
  have KZ:=hid hx
  clear hx
  go_upto_region 5 with fail
  go_region
  all_goals
   go_wp2_with fail
   first
    | (obtain ⟨w9,e9,⟨d0,d1,d2,d3,d4,d5,d6,d7,d8,d9⟩,hb⟩:=Ec (x0:=O U t0) (x1:=O U t1) (x2:=O U t2) (x3:=O U t3) (x4:=O U t4) (x5:=O U t5) (x6:=O U t6) (x7:=φ true) (y0:=O U ct) (y1:=O U cv) (KZ.out.at_ (p:=w.1.size + 1 + 1 + 1) (t:=94) (cs:=#[O U 0,O U 0,O U 0,O U 0,O U 0,O U 0,O U 0,φ false]) (by simp)) (KZ.out.at_ (p:=w.1.size + 1 + 1 + 1 + 1) (t:=118) (cs:=#[O U 0,O U 0]) (by simp)) (by omega) KZ.out.1 (by omega) (by omega);rw [e9];clear e9;exact bodyPost_ret (v:=(.tuple #[σ #[O U t0,O U t1,O U t2,O U t3,O U t4,O U t5,O U t6,φ true],σ #[O U ct,O U cv],O U 0,O U 2])) (by simp [results,results129,go_sem,d0,d1,d2,d3,d4,d5,d6,d7,d8,d9]) rfl ⟨rfl,hb.drew⟩)
    | (obtain ⟨w9,e9,⟨d0,d1,d2,d3,d4,d5,d6,d7,d8,d9⟩,hb⟩:=touch_end2 (x0:=O U t0) (x1:=O U t1) (x2:=O U t2) (x3:=O U t3) (x4:=O U t4) (x5:=O U t5) (x6:=O U t6) (x7:=φ true) (y0:=O U ct) (y1:=O U cv) (KZ.out.at_ (p:=w.1.size + 1 + 1 + 1) (t:=94) (cs:=#[O U 0,O U 0,O U 0,O U 0,O U 0,O U 0,O U 0,φ false]) (by simp)) (KZ.out.at_ (p:=w.1.size + 1 + 1 + 1 + 1) (t:=118) (cs:=#[O U 0,O U 0]) (by simp)) (by omega) KZ.out.1 (by omega) (by omega);rw [e9];clear e9;exact bodyPost_ret (v:=(.tuple #[σ #[O U t0,O U t1,O U t2,O U t3,O U t4,O U t5,O U t6,φ true],σ #[O U ct,O U cv],O U 0,O U 2])) (by simp [results,results129,go_sem,d0,d1,d2,d3,d4,d5,d6,d7,d8,d9]) rfl ⟨rfl,hb.drew⟩)
theorem Iw (key x ct cv value:Int) (A:Option Addr) (l:List Int) (cap:Nat) (t0 t1 t2 t3 t4 t5 t6:Int) (w:World) (hn:l.length <= maxLen) (hcap:l.length <= cap) (hA:Ints w U w.1.size A l) (hr:0 <= Am key l x) (ht:Bk key l (Am key l x) ⟨t0,t1,t2,t3,t4,t5,t6,false⟩ ) (hc:AO ct cv) (hv:MM value) (hcl:100000 <= t0):
    Calls prog 129 #[σ #[O U key,ψ A l.length cap],σ #[O U t0,O U t1,O U t2,O U t3,O U t4,O U t5,O U t6,φ false],O U x,σ #[O U ct,O U cv],O U value] w fun e w'=>e = τ (.tuple #[σ #[O U t0,O U t1,O U t2,O U t3,O U t4,O U t5,O U t6,φ false],σ #[O U ct,O U cv],O U 0,O U 3]) /\ Below w.1.size w w':=by
 have k0:=(((((Kept.refl w).new 26 #[O U key,ψ A l.length cap]).new 94 #[O U t0,O U t1,O U t2,O U t3,O U t4,O U t5,O U t6,φ false]).new 118 #[O U ct,O U cv]).new 94 #[O U 0,O U 0,O U 0,O U 0,O U 0,O U 0,O U 0,φ false]).new 118 #[O U 0,O U 0]
 rw [show ((((w.alloc (.cells #[O U key,ψ A l.length cap] 26)).alloc (.cells #[O U t0,O U t1,O U t2,O U t3,O U t4,O U t5,O U t6,φ false] 94)).alloc (.cells #[O U ct,O U cv] 118)).alloc (.cells #[O U 0,O U 0,O U 0,O U 0,O U 0,O U 0,O U 0,φ false] 94)).1.size = w.1.size + 1 + 1 + 1 + 1 by simp,show (((w.alloc (.cells #[O U key,ψ A l.length cap] 26)).alloc (.cells #[O U t0,O U t1,O U t2,O U t3,O U t4,O U t5,O U t6,φ false] 94)).alloc (.cells #[O U ct,O U cv] 118)).1.size = w.1.size + 1 + 1 + 1 by simp,show ((w.alloc (.cells #[O U key,ψ A l.length cap] 26)).alloc (.cells #[O U t0,O U t1,O U t2,O U t3,O U t4,O U t5,O U t6,φ false] 94)).1.size = w.1.size + 1 + 1 by simp,show (w.alloc (.cells #[O U key,ψ A l.length cap] 26)).1.size = w.1.size + 1 by simp] at k0
 have R:=hid (fun (u:World) (hb:Below w.1.size w u)=>Be key x A l cap u hn hcap ((hA.below hb (lr _)).more hb.size))
 have TO:=hid (fun (r:Int) (u:World) (h:Kept w [(w.1.size + 1 + 1 + 1 + 1,118,#[O U 0,O U 0]),(w.1.size + 1 + 1 + 1,94,#[O U 0,O U 0,O U 0,O U 0,O U 0,O U 0,O U 0,φ false]),(w.1.size + 1 + 1,118,#[O U ct,O U cv]),(w.1.size + 1,94,#[O U t0,O U t1,O U t2,O U t3,O U t4,O U t5,O U t6,φ false]),(w.1.size,26,#[O U key,ψ A l.length cap])] u)=>(AX key r A l cap t0 t1 t2 t3 t4 t5 t6 false u hn ((hA.below h.1 (lr _)).more h.1.size)).mono (fun e w' ⟨he,hb⟩=>(⟨he,h.below hb⟩:_ /\ Kept w [(w.1.size + 1 + 1 + 1 + 1,118,#[O U 0,O U 0]),(w.1.size + 1 + 1 + 1,94,#[O U 0,O U 0,O U 0,O U 0,O U 0,O U 0,O U 0,φ false]),(w.1.size + 1 + 1,118,#[O U ct,O U cv]),(w.1.size + 1,94,#[O U t0,O U t1,O U t2,O U t3,O U t4,O U t5,O U t6,φ false]),(w.1.size,26,#[O U key,ψ A l.length cap])] w')))
 have CO:=hid (fun (u:World) (h:Kept w [(w.1.size + 1 + 1 + 1 + 1,118,#[O U 0,O U 0]),(w.1.size + 1 + 1 + 1,94,#[O U 0,O U 0,O U 0,O U 0,O U 0,O U 0,O U 0,φ false]),(w.1.size + 1 + 1,118,#[O U ct,O U cv]),(w.1.size + 1,94,#[O U t0,O U t1,O U t2,O U t3,O U t4,O U t5,O U t6,φ false]),(w.1.size,26,#[O U key,ψ A l.length cap])] u)=>(AQ ct cv u).mono (fun e w' ⟨he,hb⟩=>(⟨he,h.below hb⟩:_ /\ Kept w [(w.1.size + 1 + 1 + 1 + 1,118,#[O U 0,O U 0]),(w.1.size + 1 + 1 + 1,94,#[O U 0,O U 0,O U 0,O U 0,O U 0,O U 0,O U 0,φ false]),(w.1.size + 1 + 1,118,#[O U ct,O U cv]),(w.1.size + 1,94,#[O U t0,O U t1,O U t2,O U t3,O U t4,O U t5,O U t6,φ false]),(w.1.size,26,#[O U key,ψ A l.length cap])] w')))
 have K0:=hid k0
 clear k0
 clear hA
 have hd:decide (Am key l x < 0) = false:=decide_eq_false (by omega)
 have PT:=hid (TO.out (Am key l x))
 rw [Co ht] at PT
 have PC:=CO
 rw [decide_eq_true hc] at PC
 have htm:=ht.2.2.1
 generalize Am key l x = r at R hd PT
 clear hr ht hc TO CO
 unfold isTm at htm
 by_cases hv3:value = -1
 have z_1:=trivial;rotate_left;have z_2:=trivial;rotate_left
 all_goals
  first
   | guard_hyp z_1
     subst hv3
   | have HVL:=hid (show true = decide (BP value) from (decide_eq_true (by rcases hv with h | h;exact absurd h hv3;exact h)).symm)
     have hv1:(value == -1) = false:=by simpa using hv3
     have hv2:(value != -1) = true:=by simpa using hv3
  clear hv
  go_enter func129,ntmps129
  go_wp2_with fail
  refine (R.out _ K0.out.1).mono ?_;rintro e wz ⟨rfl,b1⟩
  have hz:=K0.out.below b1
  clear b1 R K0
  have p0:wz.cell? ⟨w.1.size,0,none⟩ = some (O U key):=hz.cell (p:=w.1.size) (t:=26) (cs:=#[O U key,ψ A l.length cap]) (by simp) 0
  have p1:wz.cell? ⟨w.1.size,1,none⟩ = some (ψ A l.length cap):=hz.cell (p:=w.1.size) (t:=26) (cs:=#[O U key,ψ A l.length cap]) (by simp) 1
  have q0:wz.cell? ⟨w.1.size + 1,0,none⟩ = some (O U t0):=hz.cell (p:=w.1.size + 1) (t:=94) (cs:=#[O U t0,O U t1,O U t2,O U t3,O U t4,O U t5,O U t6,φ false]) (by simp) 0
  have q1:wz.cell? ⟨w.1.size + 1,1,none⟩ = some (O U t1):=hz.cell (p:=w.1.size + 1) (t:=94) (cs:=#[O U t0,O U t1,O U t2,O U t3,O U t4,O U t5,O U t6,φ false]) (by simp) 1
  have q2:wz.cell? ⟨w.1.size + 1,2,none⟩ = some (O U t2):=hz.cell (p:=w.1.size + 1) (t:=94) (cs:=#[O U t0,O U t1,O U t2,O U t3,O U t4,O U t5,O U t6,φ false]) (by simp) 2
  have q3:wz.cell? ⟨w.1.size + 1,3,none⟩ = some (O U t3):=hz.cell (p:=w.1.size + 1) (t:=94) (cs:=#[O U t0,O U t1,O U t2,O U t3,O U t4,O U t5,O U t6,φ false]) (by simp) 3
  have q4:wz.cell? ⟨w.1.size + 1,4,none⟩ = some (O U t4):=hz.cell (p:=w.1.size + 1) (t:=94) (cs:=#[O U t0,O U t1,O U t2,O U t3,O U t4,O U t5,O U t6,φ false]) (by simp) 4
  have q5:wz.cell? ⟨w.1.size + 1,5,none⟩ = some (O U t5):=hz.cell (p:=w.1.size + 1) (t:=94) (cs:=#[O U t0,O U t1,O U t2,O U t3,O U t4,O U t5,O U t6,φ false]) (by simp) 5
  have q6:wz.cell? ⟨w.1.size + 1,6,none⟩ = some (O U t6):=hz.cell (p:=w.1.size + 1) (t:=94) (cs:=#[O U t0,O U t1,O U t2,O U t3,O U t4,O U t5,O U t6,φ false]) (by simp) 6
  have q7:wz.cell? ⟨w.1.size + 1,7,none⟩ = some (φ false):=hz.cell (p:=w.1.size + 1) (t:=94) (cs:=#[O U t0,O U t1,O U t2,O U t3,O U t4,O U t5,O U t6,φ false]) (by simp) 7
  go_wp2_with fail
  refine (PT.out _ hz).mono ?_;rintro e wy ⟨rfl,hy⟩
  clear hz p0 p1 q0 q1 q2 q3 q4 q5 q6 q7 PT
  have s0:wy.cell? ⟨w.1.size + 1 + 1,0,none⟩ = some (O U ct):=hy.cell (p:=w.1.size + 1 + 1) (t:=118) (cs:=#[O U ct,O U cv]) (by simp) 0
  have s1:wy.cell? ⟨w.1.size + 1 + 1,1,none⟩ = some (O U cv):=hy.cell (p:=w.1.size + 1 + 1) (t:=118) (cs:=#[O U ct,O U cv]) (by simp) 1
  go_wp2_with fail
  refine (PC.out _ hy).mono ?_;rintro e wx ⟨rfl,hx⟩
  clear hy s0 s1 PC
  first
   | guard_hyp z_1
   | go_wp2_with fail
     refine (Hg _ _ _ HVL.out).mono ?_;rintro e w' ⟨rfl,rfl⟩
  have q0:wx.cell? ⟨w.1.size + 1,0,none⟩ = some (O U t0):=hx.cell (p:=w.1.size + 1) (t:=94) (cs:=#[O U t0,O U t1,O U t2,O U t3,O U t4,O U t5,O U t6,φ false]) (by simp) 0
  have q1:wx.cell? ⟨w.1.size + 1,1,none⟩ = some (O U t1):=hx.cell (p:=w.1.size + 1) (t:=94) (cs:=#[O U t0,O U t1,O U t2,O U t3,O U t4,O U t5,O U t6,φ false]) (by simp) 1
  have q2:wx.cell? ⟨w.1.size + 1,2,none⟩ = some (O U t2):=hx.cell (p:=w.1.size + 1) (t:=94) (cs:=#[O U t0,O U t1,O U t2,O U t3,O U t4,O U t5,O U t6,φ false]) (by simp) 2
  have q3:wx.cell? ⟨w.1.size + 1,3,none⟩ = some (O U t3):=hx.cell (p:=w.1.size + 1) (t:=94) (cs:=#[O U t0,O U t1,O U t2,O U t3,O U t4,O U t5,O U t6,φ false]) (by simp) 3
  have q4:wx.cell? ⟨w.1.size + 1,4,none⟩ = some (O U t4):=hx.cell (p:=w.1.size + 1) (t:=94) (cs:=#[O U t0,O U t1,O U t2,O U t3,O U t4,O U t5,O U t6,φ false]) (by simp) 4
  have q5:wx.cell? ⟨w.1.size + 1,5,none⟩ = some (O U t5):=hx.cell (p:=w.1.size + 1) (t:=94) (cs:=#[O U t0,O U t1,O U t2,O U t3,O U t4,O U t5,O U t6,φ false]) (by simp) 5
  have q6:wx.cell? ⟨w.1.size + 1,6,none⟩ = some (O U t6):=hx.cell (p:=w.1.size + 1) (t:=94) (cs:=#[O U t0,O U t1,O U t2,O U t3,O U t4,O U t5,O U t6,φ false]) (by simp) 6
  have q7:wx.cell? ⟨w.1.size + 1,7,none⟩ = some (φ false):=hx.cell (p:=w.1.size + 1) (t:=94) (cs:=#[O U t0,O U t1,O U t2,O U t3,O U t4,O U t5,O U t6,φ false]) (by simp) 7
  have s0:wx.cell? ⟨w.1.size + 1 + 1,0,none⟩ = some (O U ct):=hx.cell (p:=w.1.size + 1 + 1) (t:=118) (cs:=#[O U ct,O U cv]) (by simp) 0
  have s1:wx.cell? ⟨w.1.size + 1 + 1,1,none⟩ = some (O U cv):=hx.cell (p:=w.1.size + 1 + 1) (t:=118) (cs:=#[O U ct,O U cv]) (by simp) 1
  have r0:wx.cell? ⟨w.1.size + 1 + 1 + 1,0,none⟩ = some (O U 0):=hx.cell (p:=w.1.size + 1 + 1 + 1) (t:=94) (cs:=#[O U 0,O U 0,O U 0,O U 0,O U 0,O U 0,O U 0,φ false]) (by simp) 0
  have r1:wx.cell? ⟨w.1.size + 1 + 1 + 1,1,none⟩ = some (O U 0):=hx.cell (p:=w.1.size + 1 + 1 + 1) (t:=94) (cs:=#[O U 0,O U 0,O U 0,O U 0,O U 0,O U 0,O U 0,φ false]) (by simp) 1
  have r2:wx.cell? ⟨w.1.size + 1 + 1 + 1,2,none⟩ = some (O U 0):=hx.cell (p:=w.1.size + 1 + 1 + 1) (t:=94) (cs:=#[O U 0,O U 0,O U 0,O U 0,O U 0,O U 0,O U 0,φ false]) (by simp) 2
  have r3:wx.cell? ⟨w.1.size + 1 + 1 + 1,3,none⟩ = some (O U 0):=hx.cell (p:=w.1.size + 1 + 1 + 1) (t:=94) (cs:=#[O U 0,O U 0,O U 0,O U 0,O U 0,O U 0,O U 0,φ false]) (by simp) 3
  have r4:wx.cell? ⟨w.1.size + 1 + 1 + 1,4,none⟩ = some (O U 0):=hx.cell (p:=w.1.size + 1 + 1 + 1) (t:=94) (cs:=#[O U 0,O U 0,O U 0,O U 0,O U 0,O U 0,O U 0,φ false]) (by simp) 4
  have r5:wx.cell? ⟨w.1.size + 1 + 1 + 1,5,none⟩ = some (O U 0):=hx.cell (p:=w.1.size + 1 + 1 + 1) (t:=94) (cs:=#[O U 0,O U 0,O U 0,O U 0,O U 0,O U 0,O U 0,φ false]) (by simp) 5
  have r6:wx.cell? ⟨w.1.size + 1 + 1 + 1,6,none⟩ = some (O U 0):=hx.cell (p:=w.1.size + 1 + 1 + 1) (t:=94) (cs:=#[O U 0,O U 0,O U 0,O U 0,O U 0,O U 0,O U 0,φ false]) (by simp) 6
  have r7:wx.cell? ⟨w.1.size + 1 + 1 + 1,7,none⟩ = some (φ false):=hx.cell (p:=w.1.size + 1 + 1 + 1) (t:=94) (cs:=#[O U 0,O U 0,O U 0,O U 0,O U 0,O U 0,O U 0,φ false]) (by simp) 7
  have fr0:=hx.frozen (p:=w.1.size + 1 + 1 + 1) (t:=94) (cs:=#[O U 0,O U 0,O U 0,O U 0,O U 0,O U 0,O U 0,φ false]) (by simp) 0
  have fr1:=hx.frozen (p:=w.1.size + 1 + 1 + 1) (t:=94) (cs:=#[O U 0,O U 0,O U 0,O U 0,O U 0,O U 0,O U 0,φ false]) (by simp) 1
  have fr2:=hx.frozen (p:=w.1.size + 1 + 1 + 1) (t:=94) (cs:=#[O U 0,O U 0,O U 0,O U 0,O U 0,O U 0,O U 0,φ false]) (by simp) 2
  have fr3:=hx.frozen (p:=w.1.size + 1 + 1 + 1) (t:=94) (cs:=#[O U 0,O U 0,O U 0,O U 0,O U 0,O U 0,O U 0,φ false]) (by simp) 3
  have fr4:=hx.frozen (p:=w.1.size + 1 + 1 + 1) (t:=94) (cs:=#[O U 0,O U 0,O U 0,O U 0,O U 0,O U 0,O U 0,φ false]) (by simp) 4
  have fr5:=hx.frozen (p:=w.1.size + 1 + 1 + 1) (t:=94) (cs:=#[O U 0,O U 0,O U 0,O U 0,O U 0,O U 0,O U 0,φ false]) (by simp) 5
  have fr6:=hx.frozen (p:=w.1.size + 1 + 1 + 1) (t:=94) (cs:=#[O U 0,O U 0,O U 0,O U 0,O U 0,O U 0,O U 0,φ false]) (by simp) 6
  have fr7:=hx.frozen (p:=w.1.size + 1 + 1 + 1) (t:=94) (cs:=#[O U 0,O U 0,O U 0,O U 0,O U 0,O U 0,O U 0,φ false]) (by simp) 7
  have z0:wx.cell? ⟨w.1.size + 1 + 1 + 1 + 1,0,none⟩ = some (O U 0):=hx.cell (p:=w.1.size + 1 + 1 + 1 + 1) (t:=118) (cs:=#[O U 0,O U 0]) (by simp) 0
  have z1:wx.cell? ⟨w.1.size + 1 + 1 + 1 + 1,1,none⟩ = some (O U 0):=hx.cell (p:=w.1.size + 1 + 1 + 1 + 1) (t:=118) (cs:=#[O U 0,O U 0]) (by simp) 1
  have fz0:=hx.frozen (p:=w.1.size + 1 + 1 + 1 + 1) (t:=118) (cs:=#[O U 0,O U 0]) (by simp) 0
  have fz1:=hx.frozen (p:=w.1.size + 1 + 1 + 1 + 1) (t:=118) (cs:=#[O U 0,O U 0]) (by simp) 1
  have KZ:=hid hx
  clear hx
  go_upto_region 7 with fail
  go_region
  all_goals
   go_wp2_with fail
   first
    | (obtain ⟨w9,e9,⟨d0,d1,d2,d3,d4,d5,d6,d7,d8,d9⟩,hb⟩:=Ec (x0:=O U t0) (x1:=O U t1) (x2:=O U t2) (x3:=O U t3) (x4:=O U t4) (x5:=O U t5) (x6:=O U t6) (x7:=φ false) (y0:=O U ct) (y1:=O U cv) (KZ.out.at_ (p:=w.1.size + 1 + 1 + 1) (t:=94) (cs:=#[O U 0,O U 0,O U 0,O U 0,O U 0,O U 0,O U 0,φ false]) (by simp)) (KZ.out.at_ (p:=w.1.size + 1 + 1 + 1 + 1) (t:=118) (cs:=#[O U 0,O U 0]) (by simp)) (by omega) KZ.out.1 (by omega) (by omega);rw [e9];clear e9;exact bodyPost_ret (v:=(.tuple #[σ #[O U t0,O U t1,O U t2,O U t3,O U t4,O U t5,O U t6,φ false],σ #[O U ct,O U cv],O U 0,O U 3])) (by simp [results,results129,go_sem,d0,d1,d2,d3,d4,d5,d6,d7,d8,d9]) rfl ⟨rfl,hb.drew⟩)
    | (obtain ⟨w9,e9,⟨d0,d1,d2,d3,d4,d5,d6,d7,d8,d9⟩,hb⟩:=touch_end2 (x0:=O U t0) (x1:=O U t1) (x2:=O U t2) (x3:=O U t3) (x4:=O U t4) (x5:=O U t5) (x6:=O U t6) (x7:=φ false) (y0:=O U ct) (y1:=O U cv) (KZ.out.at_ (p:=w.1.size + 1 + 1 + 1) (t:=94) (cs:=#[O U 0,O U 0,O U 0,O U 0,O U 0,O U 0,O U 0,φ false]) (by simp)) (KZ.out.at_ (p:=w.1.size + 1 + 1 + 1 + 1) (t:=118) (cs:=#[O U 0,O U 0]) (by simp)) (by omega) KZ.out.1 (by omega) (by omega);rw [e9];clear e9;exact bodyPost_ret (v:=(.tuple #[σ #[O U t0,O U t1,O U t2,O U t3,O U t4,O U t5,O U t6,φ false],σ #[O U ct,O U cv],O U 0,O U 3])) (by simp [results,results129,go_sem,d0,d1,d2,d3,d4,d5,d6,d7,d8,d9]) rfl ⟨rfl,hb.drew⟩)

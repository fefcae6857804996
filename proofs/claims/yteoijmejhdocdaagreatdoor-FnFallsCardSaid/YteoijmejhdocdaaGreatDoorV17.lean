import Derived.Test.YteoijmejhdocdaaGreatDoorV14
import Derived.StillTail
namespace Go.Proofs.YteoijmejhdocdaaGreatDoor.Mx
open Go.ChangeShapes Go.WideShapes Go.ChangeAt Go.RowKit
set_option linter.unusedVariables false
open Go.Lib (hid)
open Go.Proofs.Tryz
set_option maxRecDepth 20000
set_option maxHeartbeats 64000000
open Value renaming int → O, slice → ψ, bool → φ, agg → σ
open IntKind renaming i64 → U
open Ending renaming returned → τ
theorem If (key x ct cv value:Int) (A:Option Addr) (l:List Int) (cap:Nat) (t0 t1 t2 t3 t4 t5 t6:Int) (w:World) (hn:l.length <= maxLen) (hcap:l.length <= cap) (hA:Ints w U w.1.size A l) (hr:0 <= Am key l x) (ht:Bk key l (Am key l x) ⟨t0,t1,t2,t3,t4,t5,t6,false⟩ ) (hc:AO ct cv) (hv:MM value) (hcl:¬ 100000 <= t0) (hct:t0 < ct):
    Calls prog 129 #[σ #[O U key,ψ A l.length cap],σ #[O U t0,O U t1,O U t2,O U t3,O U t4,O U t5,O U t6,φ false],O U x,σ #[O U ct,O U cv],O U value] w fun e w'=>e = τ (.tuple #[σ #[O U t0,O U t1,O U t2,O U t3,O U t4,O U t5,O U t6,φ true],σ #[O U ct,O U cv],O U 0,O U 4]) /\ Below w.1.size w w':=by
 have k0:=(((((Kept.refl w).new 26 #[O U key,ψ A l.length cap]).new 94 #[O U t0,O U t1,O U t2,O U t3,O U t4,O U t5,O U t6,φ false]).new 118 #[O U ct,O U cv]).new 94 #[O U 0,O U 0,O U 0,O U 0,O U 0,O U 0,O U 0,φ false]).new 118 #[O U 0,O U 0]
 rw [show ((((w.alloc (.cells #[O U key,ψ A l.length cap] 26)).alloc (.cells #[O U t0,O U t1,O U t2,O U t3,O U t4,O U t5,O U t6,φ false] 94)).alloc (.cells #[O U ct,O U cv] 118)).alloc (.cells #[O U 0,O U 0,O U 0,O U 0,O U 0,O U 0,O U 0,φ false] 94)).1.size = w.1.size + 1 + 1 + 1 + 1 by simp,show (((w.alloc (.cells #[O U key,ψ A l.length cap] 26)).alloc (.cells #[O U t0,O U t1,O U t2,O U t3,O U t4,O U t5,O U t6,φ false] 94)).alloc (.cells #[O U ct,O U cv] 118)).1.size = w.1.size + 1 + 1 + 1 by simp,show ((w.alloc (.cells #[O U key,ψ A l.length cap] 26)).alloc (.cells #[O U t0,O U t1,O U t2,O U t3,O U t4,O U t5,O U t6,φ false] 94)).1.size = w.1.size + 1 + 1 by simp,show (w.alloc (.cells #[O U key,ψ A l.length cap] 26)).1.size = w.1.size + 1 by simp] at k0
 have R:=hid (fun (u:World) (hb:Below w.1.size w u)=>Be key x A l cap u hn hcap ((hA.below hb (lr _)).more hb.size))
 have TO:=hid (fun (r:Int) (u:World) (h:Kept w [(w.1.size + 1 + 1 + 1 + 1,118,#[O U 0,O U 0]),(w.1.size + 1 + 1 + 1,94,#[O U 0,O U 0,O U 0,O U 0,O U 0,O U 0,O U 0,φ false]),(w.1.size + 1 + 1,118,#[O U ct,O U cv]),(w.1.size + 1,94,#[O U t0,O U t1,O U t2,O U t3,O U t4,O U t5,O U t6,φ false]),(w.1.size,26,#[O U key,ψ A l.length cap])] u)=>(AX key r A l cap t0 t1 t2 t3 t4 t5 t6 false u hn ((hA.below h.1 (lr _)).more h.1.size)).mono (fun e w' ⟨he,hb⟩=>(⟨he,h.below hb⟩:_ /\ Kept w [(w.1.size + 1 + 1 + 1 + 1,118,#[O U 0,O U 0]),(w.1.size + 1 + 1 + 1,94,#[O U 0,O U 0,O U 0,O U 0,O U 0,O U 0,O U 0,φ false]),(w.1.size + 1 + 1,118,#[O U ct,O U cv]),(w.1.size + 1,94,#[O U t0,O U t1,O U t2,O U t3,O U t4,O U t5,O U t6,φ false]),(w.1.size,26,#[O U key,ψ A l.length cap])] w')))
 have CO:=hid (fun (u:World) (h:Kept w [(w.1.size + 1 + 1 + 1 + 1,118,#[O U 0,O U 0]),(w.1.size + 1 + 1 + 1,94,#[O U 0,O U 0,O U 0,O U 0,O U 0,O U 0,O U 0,φ false]),(w.1.size + 1 + 1,118,#[O U ct,O U cv]),(w.1.size + 1,94,#[O U t0,O U t1,O U t2,O U t3,O U t4,O U t5,O U t6,φ false]),(w.1.size,26,#[O U key,ψ A l.length cap])] u)=>(AQ ct cv u).mono (fun e w' ⟨he,hb⟩=>(⟨he,h.below hb⟩:_ /\ Kept w [(w.1.size + 1 + 1 + 1 + 1,118,#[O U 0,O U 0]),(w.1.size + 1 + 1 + 1,94,#[O U 0,O U 0,O U 0,O U 0,O U 0,O U 0,O U 0,φ false]),(w.1.size + 1 + 1,118,#[O U ct,O U cv]),(w.1.size + 1,94,#[O U t0,O U t1,O U t2,O U t3,O U t4,O U t5,O U t6,φ false]),(w.1.size,26,#[O U key,ψ A l.length cap])] w')))
 have K0:=hid k0
 clear k0
 clear hA
 have hd:decide (Am key l x < 0) = false:=decide_eq_false (by omega)
 have PT:=hid (TO.out (Am key l x))
 rw [Co ht] at PT
 have PC:=CO
 rw [decide_eq_true hc] at PC
 have htm:=ht.2.2.1
 generalize Am key l x = r at R hd PT
 clear hr ht hc TO CO
 unfold isTm at htm
 by_cases hv3:value = -1
 have z_1:=trivial;rotate_left;have z_2:=trivial;rotate_left
 all_goals
  first
   | guard_hyp z_1
     subst hv3
   | have HVL:=hid (show true = decide (BP value) from (decide_eq_true (by rcases hv with h | h;exact absurd h hv3;exact h)).symm)
     have hv1:(value == -1) = false:=by simpa using hv3
     have hv2:(value != -1) = true:=by simpa using hv3
  clear hv
  go_enter func129,ntmps129
  go_wp2_with fail
  refine (R.out _ K0.out.1).mono ?_;rintro e wz ⟨rfl,b1⟩
  have hz:=K0.out.below b1
  clear b1 R K0
  have p0:wz.cell? ⟨w.1.size,0,none⟩ = some (O U key):=hz.cell (p:=w.1.size) (t:=26) (cs:=#[O U key,ψ A l.length cap]) (by simp) 0
  have p1:wz.cell? ⟨w.1.size,1,none⟩ = some (ψ A l.length cap):=hz.cell (p:=w.1.size) (t:=26) (cs:=#[O U key,ψ A l.length cap]) (by simp) 1
  have q0:wz.cell? ⟨w.1.size + 1,0,none⟩ = some (O U t0):=hz.cell (p:=w.1.size + 1) (t:=94) (cs:=#[O U t0,O U t1,O U t2,O U t3,O U t4,O U t5,O U t6,φ false]) (by simp) 0
  have q1:wz.cell? ⟨w.1.size + 1,1,none⟩ = some (O U t1):=hz.cell (p:=w.1.size + 1) (t:=94) (cs:=#[O U t0,O U t1,O U t2,O U t3,O U t4,O U t5,O U t6,φ false]) (by simp) 1
  have q2:wz.cell? ⟨w.1.size + 1,2,none⟩ = some (O U t2):=hz.cell (p:=w.1.size + 1) (t:=94) (cs:=#[O U t0,O U t1,O U t2,O U t3,O U t4,O U t5,O U t6,φ false]) (by simp) 2
  have q3:wz.cell? ⟨w.1.size + 1,3,none⟩ = some (O U t3):=hz.cell (p:=w.1.size + 1) (t:=94) (cs:=#[O U t0,O U t1,O U t2,O U t3,O U t4,O U t5,O U t6,φ false]) (by simp) 3
  have q4:wz.cell? ⟨w.1.size + 1,4,none⟩ = some (O U t4):=hz.cell (p:=w.1.size + 1) (t:=94) (cs:=#[O U t0,O U t1,O U t2,O U t3,O U t4,O U t5,O U t6,φ false]) (by simp) 4
  have q5:wz.cell? ⟨w.1.size + 1,5,none⟩ = some (O U t5):=hz.cell (p:=w.1.size + 1) (t:=94) (cs:=#[O U t0,O U t1,O U t2,O U t3,O U t4,O U t5,O U t6,φ false]) (by simp) 5
  have q6:wz.cell? ⟨w.1.size + 1,6,none⟩ = some (O U t6):=hz.cell (p:=w.1.size + 1) (t:=94) (cs:=#[O U t0,O U t1,O U t2,O U t3,O U t4,O U t5,O U t6,φ false]) (by simp) 6
  have q7:wz.cell? ⟨w.1.size + 1,7,none⟩ = some (φ false):=hz.cell (p:=w.1.size + 1) (t:=94) (cs:=#[O U t0,O U t1,O U t2,O U t3,O U t4,O U t5,O U t6,φ false]) (by simp) 7
  go_wp2_with fail
  refine (PT.out _ hz).mono ?_;rintro e wy ⟨rfl,hy⟩
  clear hz p0 p1 q0 q1 q2 q3 q4 q5 q6 q7 PT
  have s0:wy.cell? ⟨w.1.size + 1 + 1,0,none⟩ = some (O U ct):=hy.cell (p:=w.1.size + 1 + 1) (t:=118) (cs:=#[O U ct,O U cv]) (by simp) 0
  have s1:wy.cell? ⟨w.1.size + 1 + 1,1,none⟩ = some (O U cv):=hy.cell (p:=w.1.size + 1 + 1) (t:=118) (cs:=#[O U ct,O U cv]) (by simp) 1
  go_wp2_with fail
  refine (PC.out _ hy).mono ?_;rintro e wx ⟨rfl,hx⟩
  clear hy s0 s1 PC
  first
   | guard_hyp z_1
   | go_wp2_with fail
     refine (Hg _ _ _ HVL.out).mono ?_;rintro e w' ⟨rfl,rfl⟩
  have q0:wx.cell? ⟨w.1.size + 1,0,none⟩ = some (O U t0):=hx.cell (p:=w.1.size + 1) (t:=94) (cs:=#[O U t0,O U t1,O U t2,O U t3,O U t4,O U t5,O U t6,φ false]) (by simp) 0
  have q1:wx.cell? ⟨w.1.size + 1,1,none⟩ = some (O U t1):=hx.cell (p:=w.1.size + 1) (t:=94) (cs:=#[O U t0,O U t1,O U t2,O U t3,O U t4,O U t5,O U t6,φ false]) (by simp) 1
  have q2:wx.cell? ⟨w.1.size + 1,2,none⟩ = some (O U t2):=hx.cell (p:=w.1.size + 1) (t:=94) (cs:=#[O U t0,O U t1,O U t2,O U t3,O U t4,O U t5,O U t6,φ false]) (by simp) 2
  have q3:wx.cell? ⟨w.1.size + 1,3,none⟩ = some (O U t3):=hx.cell (p:=w.1.size + 1) (t:=94) (cs:=#[O U t0,O U t1,O U t2,O U t3,O U t4,O U t5,O U t6,φ false]) (by simp) 3
  have q4:wx.cell? ⟨w.1.size + 1,4,none⟩ = some (O U t4):=hx.cell (p:=w.1.size + 1) (t:=94) (cs:=#[O U t0,O U t1,O U t2,O U t3,O U t4,O U t5,O U t6,φ false]) (by simp) 4
  have q5:wx.cell? ⟨w.1.size + 1,5,none⟩ = some (O U t5):=hx.cell (p:=w.1.size + 1) (t:=94) (cs:=#[O U t0,O U t1,O U t2,O U t3,O U t4,O U t5,O U t6,φ false]) (by simp) 5
  have q6:wx.cell? ⟨w.1.size + 1,6,none⟩ = some (O U t6):=hx.cell (p:=w.1.size + 1) (t:=94) (cs:=#[O U t0,O U t1,O U t2,O U t3,O U t4,O U t5,O U t6,φ false]) (by simp) 6
  have q7:wx.cell? ⟨w.1.size + 1,7,none⟩ = some (φ false):=hx.cell (p:=w.1.size + 1) (t:=94) (cs:=#[O U t0,O U t1,O U t2,O U t3,O U t4,O U t5,O U t6,φ false]) (by simp) 7
  have s0:wx.cell? ⟨w.1.size + 1 + 1,0,none⟩ = some (O U ct):=hx.cell (p:=w.1.size + 1 + 1) (t:=118) (cs:=#[O U ct,O U cv]) (by simp) 0
  have s1:wx.cell? ⟨w.1.size + 1 + 1,1,none⟩ = some (O U cv):=hx.cell (p:=w.1.size + 1 + 1) (t:=118) (cs:=#[O U ct,O U cv]) (by simp) 1
  have fq7:=hx.frozen (p:=w.1.size + 1) (t:=94) (cs:=#[O U t0,O U t1,O U t2,O U t3,O U t4,O U t5,O U t6,φ false]) (by simp) 7
  have ks:=(hx.sub (L':=[(w.1.size + 1,94,#[O U t0,O U t1,O U t2,O U t3,O U t4,O U t5,O U t6,φ false]),(w.1.size + 1 + 1 + 1 + 1,118,#[O U 0,O U 0]),(w.1.size + 1 + 1 + 1,94,#[O U 0,O U 0,O U 0,O U 0,O U 0,O U 0,O U 0,φ false]),(w.1.size + 1 + 1,118,#[O U ct,O U cv]),(w.1.size,26,#[O U key,ψ A l.length cap])]) (by intro y hy;simp at hy |-;rcases hy with rfl | rfl | rfl | rfl | rfl <;> simp)).set (by intro y hy;simp at hy;rcases hy with rfl | rfl | rfl | rfl <;> simp <;> omega) 7 (φ true)
  simp only [List.setIfInBounds_toArray,List.set_cons_zero,List.set_cons_succ] at ks
  have kq:Kept w [(w.1.size + 1 + 1 + 1 + 1,118,#[O U 0,O U 0]),(w.1.size + 1 + 1 + 1,94,#[O U 0,O U 0,O U 0,O U 0,O U 0,O U 0,O U 0,φ false]),(w.1.size + 1 + 1,118,#[O U ct,O U cv]),(w.1.size + 1,94,#[O U t0,O U t1,O U t2,O U t3,O U t4,O U t5,O U t6,φ true]),(w.1.size,26,#[O U key,ψ A l.length cap])] _:=ks.sub (by intro y hy;simp at hy |-;rcases hy with rfl | rfl | rfl | rfl | rfl <;> simp)
  clear hx ks
  go_upto_region 10 with fail
  clear q0 q1 q2 q3 q4 q5 q6 q7 s0 s1 fq7
  generalize World.setCell _ _ _ = wq at kq |-
  have q0:wq.cell? ⟨w.1.size + 1,0,none⟩ = some (O U t0):=kq.cell (p:=w.1.size + 1) (t:=94) (cs:=#[O U t0,O U t1,O U t2,O U t3,O U t4,O U t5,O U t6,φ true]) (by simp) 0
  have q1:wq.cell? ⟨w.1.size + 1,1,none⟩ = some (O U t1):=kq.cell (p:=w.1.size + 1) (t:=94) (cs:=#[O U t0,O U t1,O U t2,O U t3,O U t4,O U t5,O U t6,φ true]) (by simp) 1
  have q2:wq.cell? ⟨w.1.size + 1,2,none⟩ = some (O U t2):=kq.cell (p:=w.1.size + 1) (t:=94) (cs:=#[O U t0,O U t1,O U t2,O U t3,O U t4,O U t5,O U t6,φ true]) (by simp) 2
  have q3:wq.cell? ⟨w.1.size + 1,3,none⟩ = some (O U t3):=kq.cell (p:=w.1.size + 1) (t:=94) (cs:=#[O U t0,O U t1,O U t2,O U t3,O U t4,O U t5,O U t6,φ true]) (by simp) 3
  have q4:wq.cell? ⟨w.1.size + 1,4,none⟩ = some (O U t4):=kq.cell (p:=w.1.size + 1) (t:=94) (cs:=#[O U t0,O U t1,O U t2,O U t3,O U t4,O U t5,O U t6,φ true]) (by simp) 4
  have q5:wq.cell? ⟨w.1.size + 1,5,none⟩ = some (O U t5):=kq.cell (p:=w.1.size + 1) (t:=94) (cs:=#[O U t0,O U t1,O U t2,O U t3,O U t4,O U t5,O U t6,φ true]) (by simp) 5
  have q6:wq.cell? ⟨w.1.size + 1,6,none⟩ = some (O U t6):=kq.cell (p:=w.1.size + 1) (t:=94) (cs:=#[O U t0,O U t1,O U t2,O U t3,O U t4,O U t5,O U t6,φ true]) (by simp) 6
  have q7:wq.cell? ⟨w.1.size + 1,7,none⟩ = some (φ true):=kq.cell (p:=w.1.size + 1) (t:=94) (cs:=#[O U t0,O U t1,O U t2,O U t3,O U t4,O U t5,O U t6,φ true]) (by simp) 7
  have s0:wq.cell? ⟨w.1.size + 1 + 1,0,none⟩ = some (O U ct):=kq.cell (p:=w.1.size + 1 + 1) (t:=118) (cs:=#[O U ct,O U cv]) (by simp) 0
  have s1:wq.cell? ⟨w.1.size + 1 + 1,1,none⟩ = some (O U cv):=kq.cell (p:=w.1.size + 1 + 1) (t:=118) (cs:=#[O U ct,O U cv]) (by simp) 1
  have r0:wq.cell? ⟨w.1.size + 1 + 1 + 1,0,none⟩ = some (O U 0):=kq.cell (p:=w.1.size + 1 + 1 + 1) (t:=94) (cs:=#[O U 0,O U 0,O U 0,O U 0,O U 0,O U 0,O U 0,φ false]) (by simp) 0
  have r1:wq.cell? ⟨w.1.size + 1 + 1 + 1,1,none⟩ = some (O U 0):=kq.cell (p:=w.1.size + 1 + 1 + 1) (t:=94) (cs:=#[O U 0,O U 0,O U 0,O U 0,O U 0,O U 0,O U 0,φ false]) (by simp) 1
  have r2:wq.cell? ⟨w.1.size + 1 + 1 + 1,2,none⟩ = some (O U 0):=kq.cell (p:=w.1.size + 1 + 1 + 1) (t:=94) (cs:=#[O U 0,O U 0,O U 0,O U 0,O U 0,O U 0,O U 0,φ false]) (by simp) 2
  have r3:wq.cell? ⟨w.1.size + 1 + 1 + 1,3,none⟩ = some (O U 0):=kq.cell (p:=w.1.size + 1 + 1 + 1) (t:=94) (cs:=#[O U 0,O U 0,O U 0,O U 0,O U 0,O U 0,O U 0,φ false]) (by simp) 3
  have r4:wq.cell? ⟨w.1.size + 1 + 1 + 1,4,none⟩ = some (O U 0):=kq.cell (p:=w.1.size + 1 + 1 + 1) (t:=94) (cs:=#[O U 0,O U 0,O U 0,O U 0,O U 0,O U 0,O U 0,φ false]) (by simp) 4
  have r5:wq.cell? ⟨w.1.size + 1 + 1 + 1,5,none⟩ = some (O U 0):=kq.cell (p:=w.1.size + 1 + 1 + 1) (t:=94) (cs:=#[O U 0,O U 0,O U 0,O U 0,O U 0,O U 0,O U 0,φ false]) (by simp) 5
  have r6:wq.cell? ⟨w.1.size + 1 + 1 + 1,6,none⟩ = some (O U 0):=kq.cell (p:=w.1.size + 1 + 1 + 1) (t:=94) (cs:=#[O U 0,O U 0,O U 0,O U 0,O U 0,O U 0,O U 0,φ false]) (by simp) 6
  have r7:wq.cell? ⟨w.1.size + 1 + 1 + 1,7,none⟩ = some (φ false):=kq.cell (p:=w.1.size + 1 + 1 + 1) (t:=94) (cs:=#[O U 0,O U 0,O U 0,O U 0,O U 0,O U 0,O U 0,φ false]) (by simp) 7
  have fr0:=kq.frozen (p:=w.1.size + 1 + 1 + 1) (t:=94) (cs:=#[O U 0,O U 0,O U 0,O U 0,O U 0,O U 0,O U 0,φ false]) (by simp) 0
  have fr1:=kq.frozen (p:=w.1.size + 1 + 1 + 1) (t:=94) (cs:=#[O U 0,O U 0,O U 0,O U 0,O U 0,O U 0,O U 0,φ false]) (by simp) 1
  have fr2:=kq.frozen (p:=w.1.size + 1 + 1 + 1) (t:=94) (cs:=#[O U 0,O U 0,O U 0,O U 0,O U 0,O U 0,O U 0,φ false]) (by simp) 2
  have fr3:=kq.frozen (p:=w.1.size + 1 + 1 + 1) (t:=94) (cs:=#[O U 0,O U 0,O U 0,O U 0,O U 0,O U 0,O U 0,φ false]) (by simp) 3
  have fr4:=kq.frozen (p:=w.1.size + 1 + 1 + 1) (t:=94) (cs:=#[O U 0,O U 0,O U 0,O U 0,O U 0,O U 0,O U 0,φ false]) (by simp) 4
  have fr5:=kq.frozen (p:=w.1.size + 1 + 1 + 1) (t:=94) (cs:=#[O U 0,O U 0,O U 0,O U 0,O U 0,O U 0,O U 0,φ false]) (by simp) 5
  have fr6:=kq.frozen (p:=w.1.size + 1 + 1 + 1) (t:=94) (cs:=#[O U 0,O U 0,O U 0,O U 0,O U 0,O U 0,O U 0,φ false]) (by simp) 6
  have fr7:=kq.frozen (p:=w.1.size + 1 + 1 + 1) (t:=94) (cs:=#[O U 0,O U 0,O U 0,O U 0,O U 0,O U 0,O U 0,φ false]) (by simp) 7
  have z0:wq.cell? ⟨w.1.size + 1 + 1 + 1 + 1,0,none⟩ = some (O U 0):=kq.cell (p:=w.1.size + 1 + 1 + 1 + 1) (t:=118) (cs:=#[O U 0,O U 0]) (by simp) 0
  have z1:wq.cell? ⟨w.1.size + 1 + 1 + 1 + 1,1,none⟩ = some (O U 0):=kq.cell (p:=w.1.size + 1 + 1 + 1 + 1) (t:=118) (cs:=#[O U 0,O U 0]) (by simp) 1
  have fz0:=kq.frozen (p:=w.1.size + 1 + 1 + 1 + 1) (t:=118) (cs:=#[O U 0,O U 0]) (by simp) 0
  have fz1:=kq.frozen (p:=w.1.size + 1 + 1 + 1 + 1) (t:=118) (cs:=#[O U 0,O U 0]) (by simp) 1
  have KZ:=hid kq
  clear kq
  go_region
  all_goals
   go_wp2_with fail
   first
    | (obtain ⟨w9,e9,⟨d0,d1,d2,d3,d4,d5,d6,d7,d8,d9⟩,hb⟩:=Ec (x0:=O U t0) (x1:=O U t1) (x2:=O U t2) (x3:=O U t3) (x4:=O U t4) (x5:=O U t5) (x6:=O U t6) (x7:=φ true) (y0:=O U ct) (y1:=O U cv) (KZ.out.at_ (p:=w.1.size + 1 + 1 + 1) (t:=94) (cs:=#[O U 0,O U 0,O U 0,O U 0,O U 0,O U 0,O U 0,φ false]) (by simp)) (KZ.out.at_ (p:=w.1.size + 1 + 1 + 1 + 1) (t:=118) (cs:=#[O U 0,O U 0]) (by simp)) (by omega) KZ.out.1 (by omega) (by omega);rw [e9];clear e9;exact bodyPost_ret (v:=(.tuple #[σ #[O U t0,O U t1,O U t2,O U t3,O U t4,O U t5,O U t6,φ true],σ #[O U ct,O U cv],O U 0,O U 4])) (by simp [results,results129,go_sem,d0,d1,d2,d3,d4,d5,d6,d7,d8,d9]) rfl ⟨rfl,hb.drew⟩)
    | (obtain ⟨w9,e9,⟨d0,d1,d2,d3,d4,d5,d6,d7,d8,d9⟩,hb⟩:=touch_end2 (x0:=O U t0) (x1:=O U t1) (x2:=O U t2) (x3:=O U t3) (x4:=O U t4) (x5:=O U t5) (x6:=O U t6) (x7:=φ true) (y0:=O U ct) (y1:=O U cv) (KZ.out.at_ (p:=w.1.size + 1 + 1 + 1) (t:=94) (cs:=#[O U 0,O U 0,O U 0,O U 0,O U 0,O U 0,O U 0,φ false]) (by simp)) (KZ.out.at_ (p:=w.1.size + 1 + 1 + 1 + 1) (t:=118) (cs:=#[O U 0,O U 0]) (by simp)) (by omega) KZ.out.1 (by omega) (by omega);rw [e9];clear e9;exact bodyPost_ret (v:=(.tuple #[σ #[O U t0,O U t1,O U t2,O U t3,O U t4,O U t5,O U t6,φ true],σ #[O U ct,O U cv],O U 0,O U 4])) (by simp [results,results129,go_sem,d0,d1,d2,d3,d4,d5,d6,d7,d8,d9]) rfl ⟨rfl,hb.drew⟩)
open Go.RowKit
section
variable {P:Program} {md:Region.Mode} {ops:Array Oper} {C:World -> Prop}
def Fq (P:Program) (md:Region.Mode) (ops:Array Oper) (C:World -> Prop) (n:Nat) (done:Array Bool -> Act -> Prop):Nat -> Array Bool -> Act -> Prop
 | 0,up,a=>done up a
 | f + 1,up,a=>Region.ready md ops up ≠ [] /\ ∀ j ∈ Region.ready md ops up,j < n /\ qOp P ops C j (Fq P md ops C n done f (up.setIfInBounds j true)) a
theorem Fq.all {n g:Nat} {done:Array Bool -> Act -> Prop} {Q:Exit -> Act -> World -> Prop} (hd:∀ up a w,C w -> done up a -> wpAny P md ops Q g up a w) (f:Nat):
    ∀ up a w,C w -> Fq P md ops C n done f up a -> wpAny P md ops Q (f + g) up a w:=by
 induction f with
 | zero=>intro up a w hw h;rw [Nat.zero_add];exact hd up a w hw h
 | succ f ih=>
   intro up a w hw h
   rw [Nat.add_right_comm]
   exact ⟨fun h0=>absurd h0 h.1,fun j hj=>wpOp_of_qOp hw (fun a' w' hw' h'=>ih _ a' w' hw' h') (h.2 j hj).2⟩
theorem Fq.first {n i:Nat} {oi:Oper} {v:Value} {done:Array Bool -> Act -> Prop} (hi:ops[i]? = some oi) (hsel:∀ (j:Nat) (o:Oper) cs b,ops[j]? = some o -> o.op ≠ .select cs b)
    (hs:Region.sinkB md ops n = true) (hc:Region.chainB md ops n = true) (hn:n < ops.size) (hin:i < n) (hdone:∀ up a,done up a -> ∀ j ∈ Region.ready md ops up,n <= j) (f:Nat):
    ∀ up a,HeadInv md ops n up -> (∀ j oj,ops[j]? = some oj -> j ≠ i -> up.getD j true = false -> (∀ e ∈ oj.after,Region.binds md e = true -> e.on ≠ i) -> oi.apart ops oj = true) ->
      i ∈ Region.ready md ops up -> YieldsIn P ops C oi v a -> Fq P md ops C n done f (up.setIfInBounds i true) (a.put oi.dst v) -> Fq P md ops C n done (f + 1) up a:=by
 induction f with
 | zero=>
   intro up a inv _ hr hy H
   refine ⟨fun h0=>(by rw [h0] at hr;cases hr),fun j hj=>?_⟩
   have hji:j = i:=by
    refine Classical.byContradiction fun hne=>?_
    exact tail_waits hs hc hn inv _ i rfl hin (mem_ready.1 hr).1 j (hdone _ _ H j (ready_mono hj hne)) hj
   subst hji
   exact ⟨hin,hy.qOp hi H⟩
 | succ f ih=>
   intro up a inv hfree hr hy H
   refine ⟨fun h0=>(by rw [h0] at hr;cases hr),fun j hj=>?_⟩
   by_cases hji:j = i
   ·subst hji;exact ⟨hin,hy.qOp hi H⟩
   ·obtain ⟨hjn,hj1⟩:=H.2 j (ready_mono hj hji)
    obtain ⟨hjun,oj,hoj,hall⟩:=mem_ready.1 hj
    have hnot:∀ e ∈ oj.after,Region.binds md e = true -> e.on ≠ i:=by
     intro e he hb heq
     have h2:=hall e he hb
     rw [heq,getD_both (mem_ready.1 hr).1] at h2
     cases h2
    have hboth:=qOp_put hoj (hfree j oj hoj hji hjun hnot) (fun cs b=>hsel i oi cs b hi) (fun cs b=>hsel j oj cs b hoj) hy hj1
    refine ⟨hjn,qOp_mono (fun a' h3=>ih _ a' (inv.set hj hjn) ?_ (ready_mono hr (Ne.symm hji)) h3.1 ?_) hboth⟩
    ·intro k ok hk hki hun hno
     refine hfree k ok hk hki ?_ hno
     by_cases hjk:j = k
     ·subst hjk;exact hjun
     ·rwa [getD_set_ne true hjk] at hun
    ·rw [Array.setIfInBounds_comm _ _ hji];exact h3.2
theorem Fq.lex {n g:Nat} {R:Act -> Prop} (hsel:Region.noSelect ops = true) (hs:Region.sinkB md ops n = true) (hc:Region.chainB md ops n = true) (hn:n < ops.size) (l:List Oper):
    ∀ (k:Nat) up a,(∀ j,j < l.length -> l[j]? = ops[k + j]?) -> k + l.length = n -> HeadInv md ops n up -> Region.lexHead md ops g l.length k up = true -> wpQuiet P ops C R l a ->
      Fq P md ops C n (fun up a=>Region.seqB md ops g n up = true /\ R a) l.length up a:=by
 induction l with
 | nil=>
   intro k up a _ hk _ hB h
   obtain rfl:k = n:=hk
   exact ⟨hB,h⟩
 | cons o l ih=>
   intro k up a hl hk inv hB h
   have h0:ops[k]? = some o:=by have:=hl 0 (by simp);simpa using this.symm
   simp only [List.length_cons,Region.lexHead,Bool.and_eq_true,List.contains_iff_mem] at hB
   obtain ⟨⟨hr,hf⟩,hB'⟩:=hB
   have hkn:k < n:=by simp only [List.length_cons] at hk;omega
   have hq:qOp P ops C k (wpQuiet P ops C R l) a:=by unfold qOp;rw [h0];exact h
   obtain ⟨v,hy,hrest⟩:=yieldsIn_of_qOp h0 hq
   refine Fq.first h0 (Region.noSelect_spec hsel) hs hc hn hkn (fun up' a' hd=>seqB_ready hd.1) l.length up a inv (Region.free_spec h0 hf) hr hy ?_
   refine ih (k + 1) _ _ (fun j hj=>?_) (by simp only [List.length_cons] at hk;omega) (inv.set hr hkn) hB' hrest
   have:=hl (j + 1) (by simp only [List.length_cons];omega)
   rw [List.getElem?_cons_succ] at this
   rw [this,Nat.add_right_comm,Nat.add_assoc]
theorem EW {id:Nat} {Q:Exit -> Act -> World -> Prop} {a:Act} {w:World} {l:List Oper} (n:Nat) (hm:P.follows .mixedOrders = true) (hB:Region.lexTailB .any l.toArray n = true) (hC:C w.drew)
    (h:wpQuiet P l.toArray C (fun a'=>∀ w',C w' -> wpList P l.toArray Q (l.drop n) a' w') (l.take n) a):(Code.region id l.toArray true).wp P Q a w:=by
 unfold Region.lexTailB at hB
 simp only [Bool.and_eq_true,decide_eq_true_eq] at hB
 obtain ⟨⟨⟨⟨hsel,hn⟩,hs⟩,hc⟩,hlex⟩:=hB
 have hnl:n < l.length:=by simpa using hn
 have htl:(l.take n).length = n:=by rw [List.length_take];omega
 have hdl:(l.drop n).length = l.toArray.size - n:=by simp
 have inv0:HeadInv .any l.toArray n (Array.replicate l.toArray.size false):=
  { size:=by simp
    closed:=fun j oj _ hl _ _ _=>by rw [getD_replicate_false] at hl;cases hl
    tail:=fun t _ ht=>getD_in (by simpa using ht) (getD_replicate_false _ _) }
 have H:=Fq.lex (P:=P) (C:=C) (md:=.any) (g:=l.toArray.size - n) hsel hs hc hn (l.take n) 0 (Array.replicate l.toArray.size false) a (fun j hj=>by
  rw [htl] at hj
  simp [List.getElem?_take_of_lt hj]) (by rw [htl];omega) inv0 (by rw [htl];exact hlex) h
 refine wp_region_any hm ?_
 have HA:=Fq.all (Q:=Q) (g:=l.toArray.size - n) (fun up a' w' hw' hd=>by
  have ht:=wpAny_of_seq (P:=P) (md:=.any) (ops:=l.toArray) (Q':=Q) (l.drop n) n up a' w' (fun j=>by simp [List.getElem?_drop]) (by rw [hdl];exact hd.1) (hd.2 w' hw')
  rwa [hdl] at ht) _ _ _ _ hC H
 rw [htl,show n + (l.toArray.size - n) = l.toArray.size by omega] at HA
 exact HA
end

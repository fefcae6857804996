import Derived.Test.YteoijmejhdocdaaGreatDoorV13
namespace Go.Proofs.YteoijmejhdocdaaGreatDoor.Mx
open Go.ChangeShapes Go.WideShapes Go.ChangeAt Go.RowKit
set_option linter.unusedVariables false
open Go.Lib (hid)
open Go.Proofs.Tryz
set_option maxRecDepth 20000
set_option maxHeartbeats 64000000
open Value renaming int → O, slice → ψ, bool → φ, agg → σ
open IntKind renaming i64 → U
open Ending renaming returned → τ
theorem QE {w w1:World} {q:Nat} {y0 y1 s0 s1:Value} (hq:Aa w1 q 118 #[s0,s1]):Aa ((w1.setCell ⟨q,0,none⟩ y0).setCell ⟨q,1,none⟩ y1) q 118 #[y0,y1]:=by
 have h:=(hq.set_ 0 y0).set_ 1 y1
 simp only [List.setIfInBounds_toArray,List.set_cons_zero,List.set_cons_succ] at h
 exact h
theorem Ec {w w1:World} {r q:Nat} {x0 x1 x2 x3 x4 x5 x6 x7 z0 z1 z2 z3 z4 z5 z6 z7 y0 y1 s0 s1:Value} (hk:Aa w1 r 94 #[z0,z1,z2,z3,z4,z5,z6,z7]) (hq:Aa w1 q 118 #[s0,s1]) (hne:r ≠ q) (hb:Below w.1.size w w1) (hr:w.1.size <= r) (hr':w.1.size <= q):
    ∃ w4,((((((((((w1.setCell ⟨r,0,none⟩ x0).setCell ⟨r,1,none⟩ x1).setCell ⟨r,2,none⟩ x2).setCell ⟨r,3,none⟩ x3).setCell ⟨r,4,none⟩ x4).setCell ⟨r,5,none⟩ x5).setCell ⟨r,6,none⟩ x6).setCell ⟨r,7,none⟩ x7).setCell ⟨q,0,none⟩ y0).setCell ⟨q,1,none⟩ y1) = w4 /\ (w4.cell? ⟨r,0,none⟩ = some x0 /\ w4.cell? ⟨r,1,none⟩ = some x1 /\ w4.cell? ⟨r,2,none⟩ = some x2 /\ w4.cell? ⟨r,3,none⟩ = some x3 /\ w4.cell? ⟨r,4,none⟩ = some x4 /\ w4.cell? ⟨r,5,none⟩ = some x5 /\ w4.cell? ⟨r,6,none⟩ = some x6 /\ w4.cell? ⟨r,7,none⟩ = some x7 /\ w4.cell? ⟨q,0,none⟩ = some y0 /\ w4.cell? ⟨q,1,none⟩ = some y1) /\ Below w.1.size w w4:=by
 obtain ⟨w2,e2,-,h2,b2,g2⟩:=Hi (x0:=x0) (x1:=x1) (x2:=x2) (x3:=x3) (x4:=x4) (x5:=x5) (x6:=x6) (x7:=x7) hk hb hr
 rw [e2]
 have hq2:=QE (w:=w) (y0:=y0) (y1:=y1) (hq.grown g2 (by intro e;injection e with e;exact hne e.symm))
 have h3:=(h2.grown (Ai (Aj w2 (some q)) 0 y0) (by intro e;injection e with e;exact hne e)).grown (Ai (Aj _ (some q)) 1 y1) (by intro e;injection e with e;exact hne e)
 refine ⟨_,rfl,?_,(b2.setCell (p:=⟨q,0,none⟩) hr' y0).setCell (p:=⟨q,1,none⟩) hr' y1⟩
 generalize World.setCell _ _ _ = w4 at hq2 h3 |-
 exact ⟨h3.cell 0,h3.cell 1,h3.cell 2,h3.cell 3,h3.cell 4,h3.cell 5,h3.cell 6,h3.cell 7,hq2.cell 0,hq2.cell 1⟩
def MM (value:Int):Prop:=value = -1 \/ BP value
def Ko (key:Int) (l:List Int) (t:Tru) (x ct cv value:Int):Prop:=0 <= Am key l x /\ Bk key l (Am key l x) t /\ AO ct cv /\ MM value
theorem Hg (s:Int) (z:Bool) (w:World) (h:z = decide (BP s)):
    Calls prog 127 #[O U s] w fun e w'=>e = τ (φ z) /\ w = w':=by
 subst h
 by_cases hc:BP s
 ·rw [decide_eq_true hc];exact DI s w hc
 ·rw [decide_eq_false hc];exact ER s w hc
theorem JZ (key x ct cv value:Int) (A:Option Addr) (l:List Int) (cap:Nat) (t0 t1 t2 t3 t4 t5 t6:Int) (t7:Bool) (w:World) (hn:l.length <= maxLen) (hcap:l.length <= cap) (hA:Ints w U w.1.size A l) (h:¬ Ko key l ⟨t0,t1,t2,t3,t4,t5,t6,t7⟩ x ct cv value):
    Calls prog 129 #[σ #[O U key,ψ A l.length cap],σ #[O U t0,O U t1,O U t2,O U t3,O U t4,O U t5,O U t6,φ t7],O U x,σ #[O U ct,O U cv],O U value] w fun e w'=>e = τ (.tuple #[σ #[O U 0,O U 0,O U 0,O U 0,O U 0,O U 0,O U 0,φ false],σ #[O U 0,O U 0],O U 0,O U 1]) /\ Below w.1.size w w':=by
 have k0:=(((((Kept.refl w).new 26 #[O U key,ψ A l.length cap]).new 94 #[O U t0,O U t1,O U t2,O U t3,O U t4,O U t5,O U t6,φ t7]).new 118 #[O U ct,O U cv]).new 94 #[O U 0,O U 0,O U 0,O U 0,O U 0,O U 0,O U 0,φ false]).new 118 #[O U 0,O U 0]
 rw [show ((((w.alloc (.cells #[O U key,ψ A l.length cap] 26)).alloc (.cells #[O U t0,O U t1,O U t2,O U t3,O U t4,O U t5,O U t6,φ t7] 94)).alloc (.cells #[O U ct,O U cv] 118)).alloc (.cells #[O U 0,O U 0,O U 0,O U 0,O U 0,O U 0,O U 0,φ false] 94)).1.size = w.1.size + 1 + 1 + 1 + 1 by simp,show (((w.alloc (.cells #[O U key,ψ A l.length cap] 26)).alloc (.cells #[O U t0,O U t1,O U t2,O U t3,O U t4,O U t5,O U t6,φ t7] 94)).alloc (.cells #[O U ct,O U cv] 118)).1.size = w.1.size + 1 + 1 + 1 by simp,show ((w.alloc (.cells #[O U key,ψ A l.length cap] 26)).alloc (.cells #[O U t0,O U t1,O U t2,O U t3,O U t4,O U t5,O U t6,φ t7] 94)).1.size = w.1.size + 1 + 1 by simp,show (w.alloc (.cells #[O U key,ψ A l.length cap] 26)).1.size = w.1.size + 1 by simp] at k0
 have R:=hid (fun (u:World) (hb:Below w.1.size w u)=>Be key x A l cap u hn hcap ((hA.below hb (lr _)).more hb.size))
 have TO:=hid (fun (r:Int) (u:World) (h:Kept w [(w.1.size + 1 + 1 + 1 + 1,118,#[O U 0,O U 0]),(w.1.size + 1 + 1 + 1,94,#[O U 0,O U 0,O U 0,O U 0,O U 0,O U 0,O U 0,φ false]),(w.1.size + 1 + 1,118,#[O U ct,O U cv]),(w.1.size + 1,94,#[O U t0,O U t1,O U t2,O U t3,O U t4,O U t5,O U t6,φ t7]),(w.1.size,26,#[O U key,ψ A l.length cap])] u)=>(AX key r A l cap t0 t1 t2 t3 t4 t5 t6 t7 u hn ((hA.below h.1 (lr _)).more h.1.size)).mono (fun e w' ⟨he,hb⟩=>(⟨he,h.below hb⟩:_ /\ Kept w [(w.1.size + 1 + 1 + 1 + 1,118,#[O U 0,O U 0]),(w.1.size + 1 + 1 + 1,94,#[O U 0,O U 0,O U 0,O U 0,O U 0,O U 0,O U 0,φ false]),(w.1.size + 1 + 1,118,#[O U ct,O U cv]),(w.1.size + 1,94,#[O U t0,O U t1,O U t2,O U t3,O U t4,O U t5,O U t6,φ t7]),(w.1.size,26,#[O U key,ψ A l.length cap])] w')))
 have CO:=hid (fun (u:World) (h:Kept w [(w.1.size + 1 + 1 + 1 + 1,118,#[O U 0,O U 0]),(w.1.size + 1 + 1 + 1,94,#[O U 0,O U 0,O U 0,O U 0,O U 0,O U 0,O U 0,φ false]),(w.1.size + 1 + 1,118,#[O U ct,O U cv]),(w.1.size + 1,94,#[O U t0,O U t1,O U t2,O U t3,O U t4,O U t5,O U t6,φ t7]),(w.1.size,26,#[O U key,ψ A l.length cap])] u)=>(AQ ct cv u).mono (fun e w' ⟨he,hb⟩=>(⟨he,h.below hb⟩:_ /\ Kept w [(w.1.size + 1 + 1 + 1 + 1,118,#[O U 0,O U 0]),(w.1.size + 1 + 1 + 1,94,#[O U 0,O U 0,O U 0,O U 0,O U 0,O U 0,O U 0,φ false]),(w.1.size + 1 + 1,118,#[O U ct,O U cv]),(w.1.size + 1,94,#[O U t0,O U t1,O U t2,O U t3,O U t4,O U t5,O U t6,φ t7]),(w.1.size,26,#[O U key,ψ A l.length cap])] w')))
 have K0:=hid k0
 clear k0
 unfold Ko at h
 clear hA
 by_cases hr:0 <= Am key l x
 ·have hd:decide (Am key l x < 0) = false:=decide_eq_false (by omega)
  by_cases ht:Bk key l (Am key l x) ⟨t0,t1,t2,t3,t4,t5,t6,t7⟩
  ·have PT:=hid (TO.out (Am key l x))
   rw [Co ht] at PT
   by_cases hc:AO ct cv
   have z_1:=trivial;rotate_left;have z_2:=trivial;rotate_left
   all_goals
    have PC:=CO
    first
     | guard_hyp z_1
       rw [decide_eq_true hc] at PC
       have hv:¬ MM value:=fun hv=>h ⟨hr,ht,hc,hv⟩
       have hv3:¬ value = -1:=fun e=>hv (.inl e)
       have hv1:(value == -1) = false:=by simpa using hv3
       have hv2:(value != -1) = true:=by simpa using hv3
       have HVL:=hid (show false = decide (BP value) from (decide_eq_false (fun e=>hv (.inr e))).symm)
     | rw [decide_eq_false hc] at PC
       have HVL:=hid (show decide (BP value) = decide (BP value) from rfl)
    generalize Am key l x = r at R hd PT
    first
     | guard_hyp z_1
       clear h hr ht hc hv TO CO
     | clear h hr ht hc TO CO
    go_enter func129,ntmps129
    go_wp2_with fail
    refine (R.out _ K0.out.1).mono ?_;rintro e wz ⟨rfl,b1⟩
    have hz:=K0.out.below b1
    clear b1 R K0
    have p0:wz.cell? ⟨w.1.size,0,none⟩ = some (O U key):=hz.cell (p:=w.1.size) (t:=26) (cs:=#[O U key,ψ A l.length cap]) (by simp) 0
    have p1:wz.cell? ⟨w.1.size,1,none⟩ = some (ψ A l.length cap):=hz.cell (p:=w.1.size) (t:=26) (cs:=#[O U key,ψ A l.length cap]) (by simp) 1
    have q0:wz.cell? ⟨w.1.size + 1,0,none⟩ = some (O U t0):=hz.cell (p:=w.1.size + 1) (t:=94) (cs:=#[O U t0,O U t1,O U t2,O U t3,O U t4,O U t5,O U t6,φ t7]) (by simp) 0
    have q1:wz.cell? ⟨w.1.size + 1,1,none⟩ = some (O U t1):=hz.cell (p:=w.1.size + 1) (t:=94) (cs:=#[O U t0,O U t1,O U t2,O U t3,O U t4,O U t5,O U t6,φ t7]) (by simp) 1
    have q2:wz.cell? ⟨w.1.size + 1,2,none⟩ = some (O U t2):=hz.cell (p:=w.1.size + 1) (t:=94) (cs:=#[O U t0,O U t1,O U t2,O U t3,O U t4,O U t5,O U t6,φ t7]) (by simp) 2
    have q3:wz.cell? ⟨w.1.size + 1,3,none⟩ = some (O U t3):=hz.cell (p:=w.1.size + 1) (t:=94) (cs:=#[O U t0,O U t1,O U t2,O U t3,O U t4,O U t5,O U t6,φ t7]) (by simp) 3
    have q4:wz.cell? ⟨w.1.size + 1,4,none⟩ = some (O U t4):=hz.cell (p:=w.1.size + 1) (t:=94) (cs:=#[O U t0,O U t1,O U t2,O U t3,O U t4,O U t5,O U t6,φ t7]) (by simp) 4
    have q5:wz.cell? ⟨w.1.size + 1,5,none⟩ = some (O U t5):=hz.cell (p:=w.1.size + 1) (t:=94) (cs:=#[O U t0,O U t1,O U t2,O U t3,O U t4,O U t5,O U t6,φ t7]) (by simp) 5
    have q6:wz.cell? ⟨w.1.size + 1,6,none⟩ = some (O U t6):=hz.cell (p:=w.1.size + 1) (t:=94) (cs:=#[O U t0,O U t1,O U t2,O U t3,O U t4,O U t5,O U t6,φ t7]) (by simp) 6
    have q7:wz.cell? ⟨w.1.size + 1,7,none⟩ = some (φ t7):=hz.cell (p:=w.1.size + 1) (t:=94) (cs:=#[O U t0,O U t1,O U t2,O U t3,O U t4,O U t5,O U t6,φ t7]) (by simp) 7
    go_wp2_with fail
    refine (PT.out _ hz).mono ?_;rintro e wy ⟨rfl,hy⟩
    clear hz p0 p1 q0 q1 q2 q3 q4 q5 q6 q7 PT
    have s0:wy.cell? ⟨w.1.size + 1 + 1,0,none⟩ = some (O U ct):=hy.cell (p:=w.1.size + 1 + 1) (t:=118) (cs:=#[O U ct,O U cv]) (by simp) 0
    have s1:wy.cell? ⟨w.1.size + 1 + 1,1,none⟩ = some (O U cv):=hy.cell (p:=w.1.size + 1 + 1) (t:=118) (cs:=#[O U ct,O U cv]) (by simp) 1
    go_wp2_with fail
    refine (PC.out _ hy).mono ?_;rintro e wx ⟨rfl,hx⟩
    clear hy s0 s1 PC
    first
     | guard_hyp z_1
       go_wp2_with fail
       refine (Hg _ _ _ HVL.out).mono ?_;rintro e w' ⟨rfl,rfl⟩
     | skip
    have KZ:=hid hx
    clear hx
    have r0:wx.cell? ⟨w.1.size + 1 + 1 + 1,0,none⟩ = some (O U 0):=KZ.out.cell (p:=w.1.size + 1 + 1 + 1) (t:=94) (cs:=#[O U 0,O U 0,O U 0,O U 0,O U 0,O U 0,O U 0,φ false]) (by simp) 0
    have r1:wx.cell? ⟨w.1.size + 1 + 1 + 1,1,none⟩ = some (O U 0):=KZ.out.cell (p:=w.1.size + 1 + 1 + 1) (t:=94) (cs:=#[O U 0,O U 0,O U 0,O U 0,O U 0,O U 0,O U 0,φ false]) (by simp) 1
    have r2:wx.cell? ⟨w.1.size + 1 + 1 + 1,2,none⟩ = some (O U 0):=KZ.out.cell (p:=w.1.size + 1 + 1 + 1) (t:=94) (cs:=#[O U 0,O U 0,O U 0,O U 0,O U 0,O U 0,O U 0,φ false]) (by simp) 2
    have r3:wx.cell? ⟨w.1.size + 1 + 1 + 1,3,none⟩ = some (O U 0):=KZ.out.cell (p:=w.1.size + 1 + 1 + 1) (t:=94) (cs:=#[O U 0,O U 0,O U 0,O U 0,O U 0,O U 0,O U 0,φ false]) (by simp) 3
    have r4:wx.cell? ⟨w.1.size + 1 + 1 + 1,4,none⟩ = some (O U 0):=KZ.out.cell (p:=w.1.size + 1 + 1 + 1) (t:=94) (cs:=#[O U 0,O U 0,O U 0,O U 0,O U 0,O U 0,O U 0,φ false]) (by simp) 4
    have r5:wx.cell? ⟨w.1.size + 1 + 1 + 1,5,none⟩ = some (O U 0):=KZ.out.cell (p:=w.1.size + 1 + 1 + 1) (t:=94) (cs:=#[O U 0,O U 0,O U 0,O U 0,O U 0,O U 0,O U 0,φ false]) (by simp) 5
    have r6:wx.cell? ⟨w.1.size + 1 + 1 + 1,6,none⟩ = some (O U 0):=KZ.out.cell (p:=w.1.size + 1 + 1 + 1) (t:=94) (cs:=#[O U 0,O U 0,O U 0,O U 0,O U 0,O U 0,O U 0,φ false]) (by simp) 6
    have r7:wx.cell? ⟨w.1.size + 1 + 1 + 1,7,none⟩ = some (φ false):=KZ.out.cell (p:=w.1.size + 1 + 1 + 1) (t:=94) (cs:=#[O U 0,O U 0,O U 0,O U 0,O U 0,O U 0,O U 0,φ false]) (by simp) 7
    have fr0:=KZ.out.frozen (p:=w.1.size + 1 + 1 + 1) (t:=94) (cs:=#[O U 0,O U 0,O U 0,O U 0,O U 0,O U 0,O U 0,φ false]) (by simp) 0
    have fr1:=KZ.out.frozen (p:=w.1.size + 1 + 1 + 1) (t:=94) (cs:=#[O U 0,O U 0,O U 0,O U 0,O U 0,O U 0,O U 0,φ false]) (by simp) 1
    have fr2:=KZ.out.frozen (p:=w.1.size + 1 + 1 + 1) (t:=94) (cs:=#[O U 0,O U 0,O U 0,O U 0,O U 0,O U 0,O U 0,φ false]) (by simp) 2
    have fr3:=KZ.out.frozen (p:=w.1.size + 1 + 1 + 1) (t:=94) (cs:=#[O U 0,O U 0,O U 0,O U 0,O U 0,O U 0,O U 0,φ false]) (by simp) 3
    have fr4:=KZ.out.frozen (p:=w.1.size + 1 + 1 + 1) (t:=94) (cs:=#[O U 0,O U 0,O U 0,O U 0,O U 0,O U 0,O U 0,φ false]) (by simp) 4
    have fr5:=KZ.out.frozen (p:=w.1.size + 1 + 1 + 1) (t:=94) (cs:=#[O U 0,O U 0,O U 0,O U 0,O U 0,O U 0,O U 0,φ false]) (by simp) 5
    have fr6:=KZ.out.frozen (p:=w.1.size + 1 + 1 + 1) (t:=94) (cs:=#[O U 0,O U 0,O U 0,O U 0,O U 0,O U 0,O U 0,φ false]) (by simp) 6
    have fr7:=KZ.out.frozen (p:=w.1.size + 1 + 1 + 1) (t:=94) (cs:=#[O U 0,O U 0,O U 0,O U 0,O U 0,O U 0,O U 0,φ false]) (by simp) 7
    have z0:wx.cell? ⟨w.1.size + 1 + 1 + 1 + 1,0,none⟩ = some (O U 0):=KZ.out.cell (p:=w.1.size + 1 + 1 + 1 + 1) (t:=118) (cs:=#[O U 0,O U 0]) (by simp) 0
    have z1:wx.cell? ⟨w.1.size + 1 + 1 + 1 + 1,1,none⟩ = some (O U 0):=KZ.out.cell (p:=w.1.size + 1 + 1 + 1 + 1) (t:=118) (cs:=#[O U 0,O U 0]) (by simp) 1
    have fz0:=KZ.out.frozen (p:=w.1.size + 1 + 1 + 1 + 1) (t:=118) (cs:=#[O U 0,O U 0]) (by simp) 0
    have fz1:=KZ.out.frozen (p:=w.1.size + 1 + 1 + 1 + 1) (t:=118) (cs:=#[O U 0,O U 0]) (by simp) 1
    go_wp2_with fail
    obtain ⟨w9,e9,⟨d0,d1,d2,d3,d4,d5,d6,d7,d8,d9⟩,hb⟩:=Ec (x0:=O U 0) (x1:=O U 0) (x2:=O U 0) (x3:=O U 0) (x4:=O U 0) (x5:=O U 0) (x6:=O U 0) (x7:=φ false) (y0:=O U 0) (y1:=O U 0) (KZ.out.at_ (p:=w.1.size + 1 + 1 + 1) (t:=94) (cs:=#[O U 0,O U 0,O U 0,O U 0,O U 0,O U 0,O U 0,φ false]) (by simp)) (KZ.out.at_ (p:=w.1.size + 1 + 1 + 1 + 1) (t:=118) (cs:=#[O U 0,O U 0]) (by simp)) (by omega) KZ.out.1 (by omega) (by omega)
    rw [e9]
    clear e9
    exact bodyPost_ret (v:=(.tuple #[σ #[O U 0,O U 0,O U 0,O U 0,O U 0,O U 0,O U 0,φ false],σ #[O U 0,O U 0],O U 0,O U 1])) (by simp [results,results129,go_sem,d0,d1,d2,d3,d4,d5,d6,d7,d8,d9]) rfl ⟨rfl,hb⟩
  ·have PT:=hid (TO.out (Am key l x))
   rw [CD ht] at PT
   have PC:=CO
   have HVL:=hid (show decide (BP value) = decide (BP value) from rfl)
   generalize Am key l x = r at R hd PT
   clear h hr ht TO CO
   go_enter func129,ntmps129
   go_wp2_with fail
   refine (R.out _ K0.out.1).mono ?_;rintro e wz ⟨rfl,b1⟩
   have hz:=K0.out.below b1
   clear b1 R K0
   have p0:wz.cell? ⟨w.1.size,0,none⟩ = some (O U key):=hz.cell (p:=w.1.size) (t:=26) (cs:=#[O U key,ψ A l.length cap]) (by simp) 0
   have p1:wz.cell? ⟨w.1.size,1,none⟩ = some (ψ A l.length cap):=hz.cell (p:=w.1.size) (t:=26) (cs:=#[O U key,ψ A l.length cap]) (by simp) 1
   have q0:wz.cell? ⟨w.1.size + 1,0,none⟩ = some (O U t0):=hz.cell (p:=w.1.size + 1) (t:=94) (cs:=#[O U t0,O U t1,O U t2,O U t3,O U t4,O U t5,O U t6,φ t7]) (by simp) 0
   have q1:wz.cell? ⟨w.1.size + 1,1,none⟩ = some (O U t1):=hz.cell (p:=w.1.size + 1) (t:=94) (cs:=#[O U t0,O U t1,O U t2,O U t3,O U t4,O U t5,O U t6,φ t7]) (by simp) 1
   have q2:wz.cell? ⟨w.1.size + 1,2,none⟩ = some (O U t2):=hz.cell (p:=w.1.size + 1) (t:=94) (cs:=#[O U t0,O U t1,O U t2,O U t3,O U t4,O U t5,O U t6,φ t7]) (by simp) 2
   have q3:wz.cell? ⟨w.1.size + 1,3,none⟩ = some (O U t3):=hz.cell (p:=w.1.size + 1) (t:=94) (cs:=#[O U t0,O U t1,O U t2,O U t3,O U t4,O U t5,O U t6,φ t7]) (by simp) 3
   have q4:wz.cell? ⟨w.1.size + 1,4,none⟩ = some (O U t4):=hz.cell (p:=w.1.size + 1) (t:=94) (cs:=#[O U t0,O U t1,O U t2,O U t3,O U t4,O U t5,O U t6,φ t7]) (by simp) 4
   have q5:wz.cell? ⟨w.1.size + 1,5,none⟩ = some (O U t5):=hz.cell (p:=w.1.size + 1) (t:=94) (cs:=#[O U t0,O U t1,O U t2,O U t3,O U t4,O U t5,O U t6,φ t7]) (by simp) 5
   have q6:wz.cell? ⟨w.1.size + 1,6,none⟩ = some (O U t6):=hz.cell (p:=w.1.size + 1) (t:=94) (cs:=#[O U t0,O U t1,O U t2,O U t3,O U t4,O U t5,O U t6,φ t7]) (by simp) 6
   have q7:wz.cell? ⟨w.1.size + 1,7,none⟩ = some (φ t7):=hz.cell (p:=w.1.size + 1) (t:=94) (cs:=#[O U t0,O U t1,O U t2,O U t3,O U t4,O U t5,O U t6,φ t7]) (by simp) 7
   go_wp2_with fail
   refine (PT.out _ hz).mono ?_;rintro e wy ⟨rfl,hy⟩
   clear hz p0 p1 q0 q1 q2 q3 q4 q5 q6 q7 PT
   have KZ:=hid hy
   clear hy
   have r0:wy.cell? ⟨w.1.size + 1 + 1 + 1,0,none⟩ = some (O U 0):=KZ.out.cell (p:=w.1.size + 1 + 1 + 1) (t:=94) (cs:=#[O U 0,O U 0,O U 0,O U 0,O U 0,O U 0,O U 0,φ false]) (by simp) 0
   have r1:wy.cell? ⟨w.1.size + 1 + 1 + 1,1,none⟩ = some (O U 0):=KZ.out.cell (p:=w.1.size + 1 + 1 + 1) (t:=94) (cs:=#[O U 0,O U 0,O U 0,O U 0,O U 0,O U 0,O U 0,φ false]) (by simp) 1
   have r2:wy.cell? ⟨w.1.size + 1 + 1 + 1,2,none⟩ = some (O U 0):=KZ.out.cell (p:=w.1.size + 1 + 1 + 1) (t:=94) (cs:=#[O U 0,O U 0,O U 0,O U 0,O U 0,O U 0,O U 0,φ false]) (by simp) 2
   have r3:wy.cell? ⟨w.1.size + 1 + 1 + 1,3,none⟩ = some (O U 0):=KZ.out.cell (p:=w.1.size + 1 + 1 + 1) (t:=94) (cs:=#[O U 0,O U 0,O U 0,O U 0,O U 0,O U 0,O U 0,φ false]) (by simp) 3
   have r4:wy.cell? ⟨w.1.size + 1 + 1 + 1,4,none⟩ = some (O U 0):=KZ.out.cell (p:=w.1.size + 1 + 1 + 1) (t:=94) (cs:=#[O U 0,O U 0,O U 0,O U 0,O U 0,O U 0,O U 0,φ false]) (by simp) 4
   have r5:wy.cell? ⟨w.1.size + 1 + 1 + 1,5,none⟩ = some (O U 0):=KZ.out.cell (p:=w.1.size + 1 + 1 + 1) (t:=94) (cs:=#[O U 0,O U 0,O U 0,O U 0,O U 0,O U 0,O U 0,φ false]) (by simp) 5
   have r6:wy.cell? ⟨w.1.size + 1 + 1 + 1,6,none⟩ = some (O U 0):=KZ.out.cell (p:=w.1.size + 1 + 1 + 1) (t:=94) (cs:=#[O U 0,O U 0,O U 0,O U 0,O U 0,O U 0,O U 0,φ false]) (by simp) 6
   have r7:wy.cell? ⟨w.1.size + 1 + 1 + 1,7,none⟩ = some (φ false):=KZ.out.cell (p:=w.1.size + 1 + 1 + 1) (t:=94) (cs:=#[O U 0,O U 0,O U 0,O U 0,O U 0,O U 0,O U 0,φ false]) (by simp) 7
   have fr0:=KZ.out.frozen (p:=w.1.size + 1 + 1 + 1) (t:=94) (cs:=#[O U 0,O U 0,O U 0,O U 0,O U 0,O U 0,O U 0,φ false]) (by simp) 0
   have fr1:=KZ.out.frozen (p:=w.1.size + 1 + 1 + 1) (t:=94) (cs:=#[O U 0,O U 0,O U 0,O U 0,O U 0,O U 0,O U 0,φ false]) (by simp) 1
   have fr2:=KZ.out.frozen (p:=w.1.size + 1 + 1 + 1) (t:=94) (cs:=#[O U 0,O U 0,O U 0,O U 0,O U 0,O U 0,O U 0,φ false]) (by simp) 2
   have fr3:=KZ.out.frozen (p:=w.1.size + 1 + 1 + 1) (t:=94) (cs:=#[O U 0,O U 0,O U 0,O U 0,O U 0,O U 0,O U 0,φ false]) (by simp) 3
   have fr4:=KZ.out.frozen (p:=w.1.size + 1 + 1 + 1) (t:=94) (cs:=#[O U 0,O U 0,O U 0,O U 0,O U 0,O U 0,O U 0,φ false]) (by simp) 4
   have fr5:=KZ.out.frozen (p:=w.1.size + 1 + 1 + 1) (t:=94) (cs:=#[O U 0,O U 0,O U 0,O U 0,O U 0,O U 0,O U 0,φ false]) (by simp) 5
   have fr6:=KZ.out.frozen (p:=w.1.size + 1 + 1 + 1) (t:=94) (cs:=#[O U 0,O U 0,O U 0,O U 0,O U 0,O U 0,O U 0,φ false]) (by simp) 6
   have fr7:=KZ.out.frozen (p:=w.1.size + 1 + 1 + 1) (t:=94) (cs:=#[O U 0,O U 0,O U 0,O U 0,O U 0,O U 0,O U 0,φ false]) (by simp) 7
   have z0:wy.cell? ⟨w.1.size + 1 + 1 + 1 + 1,0,none⟩ = some (O U 0):=KZ.out.cell (p:=w.1.size + 1 + 1 + 1 + 1) (t:=118) (cs:=#[O U 0,O U 0]) (by simp) 0
   have z1:wy.cell? ⟨w.1.size + 1 + 1 + 1 + 1,1,none⟩ = some (O U 0):=KZ.out.cell (p:=w.1.size + 1 + 1 + 1 + 1) (t:=118) (cs:=#[O U 0,O U 0]) (by simp) 1
   have fz0:=KZ.out.frozen (p:=w.1.size + 1 + 1 + 1 + 1) (t:=118) (cs:=#[O U 0,O U 0]) (by simp) 0
   have fz1:=KZ.out.frozen (p:=w.1.size + 1 + 1 + 1 + 1) (t:=118) (cs:=#[O U 0,O U 0]) (by simp) 1
   go_wp2_with fail
   obtain ⟨w9,e9,⟨d0,d1,d2,d3,d4,d5,d6,d7,d8,d9⟩,hb⟩:=Ec (x0:=O U 0) (x1:=O U 0) (x2:=O U 0) (x3:=O U 0) (x4:=O U 0) (x5:=O U 0) (x6:=O U 0) (x7:=φ false) (y0:=O U 0) (y1:=O U 0) (KZ.out.at_ (p:=w.1.size + 1 + 1 + 1) (t:=94) (cs:=#[O U 0,O U 0,O U 0,O U 0,O U 0,O U 0,O U 0,φ false]) (by simp)) (KZ.out.at_ (p:=w.1.size + 1 + 1 + 1 + 1) (t:=118) (cs:=#[O U 0,O U 0]) (by simp)) (by omega) KZ.out.1 (by omega) (by omega)
   rw [e9]
   clear e9
   exact bodyPost_ret (v:=(.tuple #[σ #[O U 0,O U 0,O U 0,O U 0,O U 0,O U 0,O U 0,φ false],σ #[O U 0,O U 0],O U 0,O U 1])) (by simp [results,results129,go_sem,d0,d1,d2,d3,d4,d5,d6,d7,d8,d9]) rfl ⟨rfl,hb⟩
 ·have hd:decide (Am key l x < 0) = true:=decide_eq_true (by omega)
  generalize Am key l x = r at R hd
  clear h hr TO CO
  go_enter func129,ntmps129
  go_wp2_with fail
  refine (R.out _ K0.out.1).mono ?_;rintro e wz ⟨rfl,b1⟩
  have hz:=K0.out.below b1
  clear b1 R K0
  have KZ:=hid hz
  clear hz
  have r0:wz.cell? ⟨w.1.size + 1 + 1 + 1,0,none⟩ = some (O U 0):=KZ.out.cell (p:=w.1.size + 1 + 1 + 1) (t:=94) (cs:=#[O U 0,O U 0,O U 0,O U 0,O U 0,O U 0,O U 0,φ false]) (by simp) 0
  have r1:wz.cell? ⟨w.1.size + 1 + 1 + 1,1,none⟩ = some (O U 0):=KZ.out.cell (p:=w.1.size + 1 + 1 + 1) (t:=94) (cs:=#[O U 0,O U 0,O U 0,O U 0,O U 0,O U 0,O U 0,φ false]) (by simp) 1
  have r2:wz.cell? ⟨w.1.size + 1 + 1 + 1,2,none⟩ = some (O U 0):=KZ.out.cell (p:=w.1.size + 1 + 1 + 1) (t:=94) (cs:=#[O U 0,O U 0,O U 0,O U 0,O U 0,O U 0,O U 0,φ false]) (by simp) 2
  have r3:wz.cell? ⟨w.1.size + 1 + 1 + 1,3,none⟩ = some (O U 0):=KZ.out.cell (p:=w.1.size + 1 + 1 + 1) (t:=94) (cs:=#[O U 0,O U 0,O U 0,O U 0,O U 0,O U 0,O U 0,φ false]) (by simp) 3
  have r4:wz.cell? ⟨w.1.size + 1 + 1 + 1,4,none⟩ = some (O U 0):=KZ.out.cell (p:=w.1.size + 1 + 1 + 1) (t:=94) (cs:=#[O U 0,O U 0,O U 0,O U 0,O U 0,O U 0,O U 0,φ false]) (by simp) 4
  have r5:wz.cell? ⟨w.1.size + 1 + 1 + 1,5,none⟩ = some (O U 0):=KZ.out.cell (p:=w.1.size + 1 + 1 + 1) (t:=94) (cs:=#[O U 0,O U 0,O U 0,O U 0,O U 0,O U 0,O U 0,φ false]) (by simp) 5
  have r6:wz.cell? ⟨w.1.size + 1 + 1 + 1,6,none⟩ = some (O U 0):=KZ.out.cell (p:=w.1.size + 1 + 1 + 1) (t:=94) (cs:=#[O U 0,O U 0,O U 0,O U 0,O U 0,O U 0,O U 0,φ false]) (by simp) 6
  have r7:wz.cell? ⟨w.1.size + 1 + 1 + 1,7,none⟩ = some (φ false):=KZ.out.cell (p:=w.1.size + 1 + 1 + 1) (t:=94) (cs:=#[O U 0,O U 0,O U 0,O U 0,O U 0,O U 0,O U 0,φ false]) (by simp) 7
  have fr0:=KZ.out.frozen (p:=w.1.size + 1 + 1 + 1) (t:=94) (cs:=#[O U 0,O U 0,O U 0,O U 0,O U 0,O U 0,O U 0,φ false]) (by simp) 0
  have fr1:=KZ.out.frozen (p:=w.1.size + 1 + 1 + 1) (t:=94) (cs:=#[O U 0,O U 0,O U 0,O U 0,O U 0,O U 0,O U 0,φ false]) (by simp) 1
  have fr2:=KZ.out.frozen (p:=w.1.size + 1 + 1 + 1) (t:=94) (cs:=#[O U 0,O U 0,O U 0,O U 0,O U 0,O U 0,O U 0,φ false]) (by simp) 2
  have fr3:=KZ.out.frozen (p:=w.1.size + 1 + 1 + 1) (t:=94) (cs:=#[O U 0,O U 0,O U 0,O U 0,O U 0,O U 0,O U 0,φ false]) (by simp) 3
  have fr4:=KZ.out.frozen (p:=w.1.size + 1 + 1 + 1) (t:=94) (cs:=#[O U 0,O U 0,O U 0,O U 0,O U 0,O U 0,O U 0,φ false]) (by simp) 4
  have fr5:=KZ.out.frozen (p:=w.1.size + 1 + 1 + 1) (t:=94) (cs:=#[O U 0,O U 0,O U 0,O U 0,O U 0,O U 0,O U 0,φ false]) (by simp) 5
  have fr6:=KZ.out.frozen (p:=w.1.size + 1 + 1 + 1) (t:=94) (cs:=#[O U 0,O U 0,O U 0,O U 0,O U 0,O U 0,O U 0,φ false]) (by simp) 6
  have fr7:=KZ.out.frozen (p:=w.1.size + 1 + 1 + 1) (t:=94) (cs:=#[O U 0,O U 0,O U 0,O U 0,O U 0,O U 0,O U 0,φ false]) (by simp) 7
  have z0:wz.cell? ⟨w.1.size + 1 + 1 + 1 + 1,0,none⟩ = some (O U 0):=KZ.out.cell (p:=w.1.size + 1 + 1 + 1 + 1) (t:=118) (cs:=#[O U 0,O U 0]) (by simp) 0
  have z1:wz.cell? ⟨w.1.size + 1 + 1 + 1 + 1,1,none⟩ = some (O U 0):=KZ.out.cell (p:=w.1.size + 1 + 1 + 1 + 1) (t:=118) (cs:=#[O U 0,O U 0]) (by simp) 1
  have fz0:=KZ.out.frozen (p:=w.1.size + 1 + 1 + 1 + 1) (t:=118) (cs:=#[O U 0,O U 0]) (by simp) 0
  have fz1:=KZ.out.frozen (p:=w.1.size + 1 + 1 + 1 + 1) (t:=118) (cs:=#[O U 0,O U 0]) (by simp) 1
  go_wp2_with fail
  obtain ⟨w9,e9,⟨d0,d1,d2,d3,d4,d5,d6,d7,d8,d9⟩,hb⟩:=Ec (x0:=O U 0) (x1:=O U 0) (x2:=O U 0) (x3:=O U 0) (x4:=O U 0) (x5:=O U 0) (x6:=O U 0) (x7:=φ false) (y0:=O U 0) (y1:=O U 0) (KZ.out.at_ (p:=w.1.size + 1 + 1 + 1) (t:=94) (cs:=#[O U 0,O U 0,O U 0,O U 0,O U 0,O U 0,O U 0,φ false]) (by simp)) (KZ.out.at_ (p:=w.1.size + 1 + 1 + 1 + 1) (t:=118) (cs:=#[O U 0,O U 0]) (by simp)) (by omega) KZ.out.1 (by omega) (by omega)
  rw [e9]
  clear e9
  exact bodyPost_ret (v:=(.tuple #[σ #[O U 0,O U 0,O U 0,O U 0,O U 0,O U 0,O U 0,φ false],σ #[O U 0,O U 0],O U 0,O U 1])) (by simp [results,results129,go_sem,d0,d1,d2,d3,d4,d5,d6,d7,d8,d9]) rfl ⟨rfl,hb⟩
theorem Ns (nx:Bool) (key:Int) (A:Option Addr) (n cap:Nat) (t0 t1 t2 t3 t4 t5 t6:Int) (t7:Bool) (a b c a' b' c':Int) (w:World):
    Calls prog 199 #[σ #[O U key,ψ A n cap],σ #[O U t0,O U t1,O U t2,O U t3,O U t4,O U t5,O U t6,φ t7],φ nx,σ #[O U a,O U b,O U c],σ #[O U a',O U b',O U c']] w fun e w'=>e = τ (σ #[O U (Cu key ⟨t0,t1,t2,t3,t4,t5,t6,t7⟩ nx a b c a' b' c').clock,O U (Cu key ⟨t0,t1,t2,t3,t4,t5,t6,t7⟩ nx a b c a' b' c').epoch,O U (Cu key ⟨t0,t1,t2,t3,t4,t5,t6,t7⟩ nx a b c a' b' c').cursor,O U (Cu key ⟨t0,t1,t2,t3,t4,t5,t6,t7⟩ nx a b c a' b' c').read,O U (Cu key ⟨t0,t1,t2,t3,t4,t5,t6,t7⟩ nx a b c a' b' c').written,O U (Cu key ⟨t0,t1,t2,t3,t4,t5,t6,t7⟩ nx a b c a' b' c').nread,O U (Cu key ⟨t0,t1,t2,t3,t4,t5,t6,t7⟩ nx a b c a' b' c').nwritten,φ (Cu key ⟨t0,t1,t2,t3,t4,t5,t6,t7⟩ nx a b c a' b' c').failed]) /\ Below w.1.size w w':=by
 cases nx
 ·exact Nk key A n cap t0 t1 t2 t3 t4 t5 t6 t7 a b c a' b' c' w
 ·exact OV key A n cap t0 t1 t2 t3 t4 t5 t6 t7 a b c a' b' c' w

import Derived.Test.YteoijmejhdocdaaGreatDoorV37
namespace Go.Proofs.YteoijmejhdocdaaGreatDoor.Mx
open Go.ChangeShapes Go.WideShapes Go.ChangeAt Go.RowKit
set_option linter.unusedVariables false
open Go.Lib (hid)
open Go.Proofs.Tryz
set_option maxRecDepth 20000
set_option maxHeartbeats 64000000
open Value renaming int → O, slice → ψ, bool → φ, agg → σ
open IntKind renaming i64 → U
open Ending renaming returned → τ
theorem OR (a b:Int) (w:World):Calls prog 228 #[O U a,O U b] w fun e w'=>e = τ (O U (if b < a then a else b)) /\ w = w':=by
 by_cases h:b < a
 ·rw [if_pos h]
  go_enter func228,ntmps228
  go_wp2_with fail
  go_ret
  exact ⟨rfl,rfl⟩
 ·rw [if_neg h]
  have hd:decide (b < a) = false:=decide_eq_false h
  go_enter func228,ntmps228
  go_wp2_with fail
  go_ret
  exact ⟨rfl,rfl⟩
def OrdS (n:Nat) (v w:World) (g:Nat) (A:Option Addr) (l:List Int) (cap:Nat) (e:Ending) (w':World):Prop:=
 ∃ kind a b c:Int,e = τ (σ #[O U kind,O U a,O U b,O U c]) /\ (1 <= kind /\ kind <= 9) /\ (0 <= a /\ a <= 1048576) /\ (kind = 4 -> a < n) /\ St v g A l cap w' /\ w.grownBy w' (some g)
theorem EU {v w w3:World} {g h:Nat} {A:Option Addr} {l:List Int} {cap:Nat} {x y z u p q r s:Int} (hg:g < h) (hw:w.1.size <= h) (hk:Aa w3 h 56 #[O U p,O U q,O U r,O U s]) (hs:St v g A l cap w3) (hG:w.grownBy w3 (some g)):
    ∃ w4,(((w3.setCell ⟨h,0,none⟩ (O U x)).setCell ⟨h,1,none⟩ (O U y)).setCell ⟨h,2,none⟩ (O U z)).setCell ⟨h,3,none⟩ (O U u) = w4 /\ (w4.cell? ⟨h,0,none⟩ = some (O U x) /\ w4.cell? ⟨h,1,none⟩ = some (O U y) /\ w4.cell? ⟨h,2,none⟩ = some (O U z) /\ w4.cell? ⟨h,3,none⟩ = some (O U u)) /\ St v g A l cap w4 /\ w.grownBy w4 (some g):=by
 have hc:=(((hk.set_ 0 (O U x)).set_ 1 (O U y)).set_ 2 (O U z)).set_ 3 (O U u)
 exact ⟨_,rfl,⟨hc.cell 0,hc.cell 1,hc.cell 2,hc.cell 3⟩,(((hs.set hg 0 (O U x)).set hg 1 (O U y)).set hg 2 (O U z)).set hg 3 (O U u),Ch (Ch (Ch (Ch hG hw 0 (O U x)) hw 1 (O U y)) hw 2 (O U z)) hw 3 (O U u)⟩
theorem Pk (v:World) (g:Nat) (A:Option Addr) (l:List Int) (cap:Nat) (w:World) (hn:l.length <= maxLen) (h:St v g A l cap w) (key cnt:Int) (PA PB PC PD:Option Addr) (n1 c1 n2 c2 n3 c3 n4 c4:Nat) (h2:n2 <= 1048576) (h3:n3 <= 1048576) (h20:0 < n2):
    Calls prog 186 #[.pointer (some ⟨g,0,none⟩),σ #[O U key,ψ PA n1 c1,ψ PB n2 c2,ψ PC n3 c3,ψ PD n4 c4,O U cnt]] w (OrdS n2 v w g A l cap):=by
 have HN:=hid hn
 have HL:=h.2.lt
 have HS:=hid ((h.alloc (.cells #[O U key,ψ PA n1 c1,ψ PB n2 c2,ψ PC n3 c3,ψ PD n4 c4,O U cnt] 31)).alloc (.cells #[O U 0,O U 0,O U 0,O U 0] 56))
 have HG:=hid (AZ (AZ (Aj w (some g)) (.cells #[O U key,ψ PA n1 c1,ψ PB n2 c2,ψ PC n3 c3,ψ PD n4 c4,O U cnt] 31)) (.cells #[O U 0,O U 0,O U 0,O U 0] 56))
 have K0:=hid (show Aa ((w.alloc (.cells #[O U key,ψ PA n1 c1,ψ PB n2 c2,ψ PC n3 c3,ψ PD n4 c4,O U cnt] 31)).alloc (.cells #[O U 0,O U 0,O U 0,O U 0] 56)) w.1.size 31 #[O U key,ψ PA n1 c1,ψ PB n2 c2,ψ PC n3 c3,ψ PD n4 c4,O U cnt] from Aa.grown (Aa.new w _ _) (World.grownBy_alloc _ _ none) (by simp))
 have Q0:=hid (show Aa ((w.alloc (.cells #[O U key,ψ PA n1 c1,ψ PB n2 c2,ψ PC n3 c3,ψ PD n4 c4,O U cnt] 31)).alloc (.cells #[O U 0,O U 0,O U 0,O U 0] 56)) (w.1.size + 1) 56 #[O U 0,O U 0,O U 0,O U 0] from by
  have q:=Aa.new (w.alloc (.cells #[O U key,ψ PA n1 c1,ψ PB n2 c2,ψ PC n3 c3,ψ PD n4 c4,O U cnt] 31)) 56 #[O U 0,O U 0,O U 0,O U 0]
  rwa [show (w.alloc (.cells #[O U key,ψ PA n1 c1,ψ PB n2 c2,ψ PC n3 c3,ψ PD n4 c4,O U cnt] 31)).1.size = w.1.size + 1 by simp] at q)
 clear hn h
 have MX:=hid (fun a b u=>OR a b u)
 go_enter func186,ntmps186
 go_upto_region 1 with fail
 have hs0:=HS.out
 have hg0:=HG.out
 have k0:=K0.out
 have q0:=Q0.out
 clear HS HG K0 Q0
 generalize World.alloc _ _ = w0 at hs0 hg0 k0 q0 |-
 have hz0:=hg0.size
 have kc:∀ i,w0.cell? ⟨w.1.size,i,none⟩ = #[O U key,ψ PA n1 c1,ψ PB n2 c2,ψ PC n3 c3,ψ PD n4 c4,O U cnt][i]?:=k0.cell
 have S0:=hid hs0
 have G0:=hid hg0
 have K0:=hid k0
 have Q0:=hid q0
 clear hs0 hg0 k0 q0
 go_wp2_with fail
 refine (MX.out _ _ _).mono ?_;rintro e w' ⟨rfl,rfl⟩
 obtain ⟨m1,hm1⟩:∃ m:Int,m = if (n3:Int) < 1 then (1:Int) else (n3:Int):=⟨_,rfl⟩
 have bm1:1 <= m1 /\ m1 <= 1048576:=by rw [hm1];split <;> omega
 rw [<- hm1]
 clear hm1
 go_wp2_with fail
 refine (Bp v g A l cap m1 _ HN.out S0.out bm1.1).mono ?_;rintro e w1 ⟨a,rfl,⟨a0,a1⟩,s1,g1⟩
 have X1:∀ i,w1.cell? ⟨w.1.size,i,none⟩ = #[O U key,ψ PA n1 c1,ψ PB n2 c2,ψ PC n3 c3,ψ PD n4 c4,O U cnt][i]?:=(K0.out.grown g1 (by intro e;injection e;omega)).cell
 have S1:=hid s1
 have Q1:=hid (Q0.out.grown g1 (by intro e;injection e;omega))
 have G1:=hid (Ar G0.out g1)
 clear s1 g1 kc S0 Q0 G0 K0
 go_wp2_with fail
 refine (MX.out _ _ _).mono ?_;rintro e w' ⟨rfl,rfl⟩
 obtain ⟨m2,hm2⟩:∃ m:Int,m = if (n2:Int) < 1 then (1:Int) else (n2:Int):=⟨_,rfl⟩
 have bm2:1 <= m2 /\ m2 <= 1048576 /\ m2 <= n2:=by rw [hm2];split <;> omega
 rw [<- hm2]
 clear hm2
 go_wp2_with fail
 refine (Bp v g A l cap m2 _ HN.out S1.out bm2.1).mono ?_;rintro e w2 ⟨r,rfl,⟨r0,r1⟩,s2,g2⟩
 have S2:=hid s2
 have Q2:=hid (Q1.out.grown g2 (by intro e;injection e;omega))
 have G2:=hid (Ar G1.out g2)
 clear s2 g2 X1 S1 Q1 G1
 go_wp2_with fail
 refine (Bp v g A l cap 22 _ HN.out S2.out (by omega)).mono ?_;rintro e w3 ⟨k,rfl,⟨k0,k1⟩,s3,g3⟩
 have S3:=hid s3
 have Q3:=hid (Q2.out.grown g3 (by intro e;injection e;omega))
 have G3:=hid (Ar G2.out g3)
 clear s3 g3 S2 Q2 G2
 obtain h_:k = 0 \/ k = 1 \/ k = 2 \/ k = 3 \/ k = 4 \/ k = 5 \/ k = 6 \/ k = 7 \/ k = 8 \/ k = 9 \/ k = 10 \/ k = 11 \/ k = 12 \/ k = 13 \/ k = 14 \/ k = 15 \/ k = 16 \/ k = 17 \/ k = 18 \/ k = 19 \/ k = 20 \/ k = 21:=by omega
 clear k0 k1
 rcases h_ with rfl | rfl | rfl | rfl | rfl | rfl | rfl | rfl | rfl | rfl | rfl | rfl | rfl | rfl | rfl | rfl | rfl | rfl | rfl | rfl | rfl | rfl
 have z_1:=trivial;rotate_left;have z_2:=trivial;rotate_left;have z_3:=trivial;rotate_left;have z_4:=trivial;rotate_left;have z_5:=trivial;rotate_left;have z_6:=trivial;rotate_left;have z_7:=trivial;rotate_left;have z_8:=trivial;rotate_left;have z_9:=trivial;rotate_left;have z_10:=trivial;rotate_left;have z_11:=trivial;rotate_left;have z_12:=trivial;rotate_left;have z_13:=trivial;rotate_left;have z_14:=trivial;rotate_left;have z_15:=trivial;rotate_left;have z_16:=trivial;rotate_left;have z_17:=trivial;rotate_left;have z_18:=trivial;rotate_left;have z_19:=trivial;rotate_left;have z_20:=trivial;rotate_left;have z_21:=trivial;rotate_left;have z_22:=trivial;rotate_left
 all_goals
  skip
  first
   | first | guard_hyp z_5 | guard_hyp z_6 | guard_hyp z_7 | guard_hyp z_8 | guard_hyp z_9 | guard_hyp z_18 | guard_hyp z_19 | guard_hyp z_20 | guard_hyp z_21
   | have kz:∀ i,w3.cell? ⟨w.1.size + 1,i,none⟩ = #[O U 0,O U 0,O U 0,O U 0][i]?:=Q3.out.cell
     have fz:∀ i,w3.frozen? ⟨w.1.size + 1,i,none⟩ = false:=Q3.out.frozen
  go_wp2_with fail
  first
   | guard_hyp z_15
     obtain ⟨w9,e9,⟨d0,d1,d2,d3⟩,hs9,hg9⟩:=EU (x:=4) (y:=r) (z:=0) (u:=0) (show g < w.1.size + 1 by omega) (show w.1.size <= w.1.size + 1 by omega) Q3.out S3.out G3.out
     rw [e9]
     exact bodyPost_ret (v:=σ #[O U (4),O U (r),O U (0),O U (0)]) (by simp [results,results186,go_sem,d0,d1,d2,d3]) rfl ⟨_,_,_,_,rfl,⟨by omega,by omega⟩,⟨by omega,by omega⟩,fun _=>by omega,hs9,hg9⟩
   | guard_hyp z_18
     refine (Bp v g A l cap 4 _ HN.out S3.out (by omega)).mono ?_;rintro e w4 ⟨b,rfl,⟨b0,b1⟩,sx,gx⟩
     have S4:=hid sx
     have Q4:=hid (Q3.out.grown gx (by intro e;injection e;omega))
     have G4:=hid (Ar G3.out gx)
     clear sx gx S3 Q3 G3
     have kz:∀ i,w4.cell? ⟨w.1.size + 1,i,none⟩ = #[O U 0,O U 0,O U 0,O U 0][i]?:=Q4.out.cell
     have fz:∀ i,w4.frozen? ⟨w.1.size + 1,i,none⟩ = false:=Q4.out.frozen
     go_wp2_with fail
     obtain ⟨w9,e9,⟨d0,d1,d2,d3⟩,hs9,hg9⟩:=EU (x:=6) (y:=b) (z:=0) (u:=0) (show g < w.1.size + 1 by omega) (show w.1.size <= w.1.size + 1 by omega) Q4.out S4.out G4.out
     rw [e9]
     exact bodyPost_ret (v:=σ #[O U (6),O U (b),O U (0),O U (0)]) (by simp [results,results186,go_sem,d0,d1,d2,d3]) rfl ⟨_,_,_,_,rfl,⟨by omega,by omega⟩,⟨by omega,by omega⟩,fun _=>by omega,hs9,hg9⟩
   | guard_hyp z_19
     refine (Bp v g A l cap 20 _ HN.out S3.out (by omega)).mono ?_;rintro e w4 ⟨b,rfl,⟨b0,b1⟩,sx,gx⟩
     have S4:=hid sx
     have Q4:=hid (Q3.out.grown gx (by intro e;injection e;omega))
     have G4:=hid (Ar G3.out gx)
     clear sx gx S3 Q3 G3
     go_wp2_with fail
     refine (Bp v g A l cap 10007 _ HN.out S4.out (by omega)).mono ?_;rintro e w5 ⟨c,rfl,⟨c0,c1⟩,sx,gx⟩
     have S5:=hid sx
     have Q5:=hid (Q4.out.grown gx (by intro e;injection e;omega))
     have G5:=hid (Ar G4.out gx)
     clear sx gx S4 Q4 G4
     have kz:∀ i,w5.cell? ⟨w.1.size + 1,i,none⟩ = #[O U 0,O U 0,O U 0,O U 0][i]?:=Q5.out.cell
     have fz:∀ i,w5.frozen? ⟨w.1.size + 1,i,none⟩ = false:=Q5.out.frozen
     go_wp2_with fail
     obtain ⟨w9,e9,⟨d0,d1,d2,d3⟩,hs9,hg9⟩:=EU (x:=7) (y:=a) (z:=b) (u:=c) (show g < w.1.size + 1 by omega) (show w.1.size <= w.1.size + 1 by omega) Q5.out S5.out G5.out
     rw [e9]
     exact bodyPost_ret (v:=σ #[O U (7),O U (a),O U (b),O U (c)]) (by simp [results,results186,go_sem,d0,d1,d2,d3]) rfl ⟨_,_,_,_,rfl,⟨by omega,by omega⟩,⟨by omega,by omega⟩,fun _=>by omega,hs9,hg9⟩
   | guard_hyp z_20
     refine (Bp v g A l cap 2 _ HN.out S3.out (by omega)).mono ?_;rintro e w4 ⟨b,rfl,⟨b0,b1⟩,sx,gx⟩
     have S4:=hid sx
     have Q4:=hid (Q3.out.grown gx (by intro e;injection e;omega))
     have G4:=hid (Ar G3.out gx)
     clear sx gx S3 Q3 G3
     have kz:∀ i,w4.cell? ⟨w.1.size + 1,i,none⟩ = #[O U 0,O U 0,O U 0,O U 0][i]?:=Q4.out.cell
     have fz:∀ i,w4.frozen? ⟨w.1.size + 1,i,none⟩ = false:=Q4.out.frozen
     go_wp2_with fail
     obtain ⟨w9,e9,⟨d0,d1,d2,d3⟩,hs9,hg9⟩:=EU (x:=8) (y:=a) (z:=b) (u:=0) (show g < w.1.size + 1 by omega) (show w.1.size <= w.1.size + 1 by omega) Q4.out S4.out G4.out
     rw [e9]
     exact bodyPost_ret (v:=σ #[O U (8),O U (a),O U (b),O U (0)]) (by simp [results,results186,go_sem,d0,d1,d2,d3]) rfl ⟨_,_,_,_,rfl,⟨by omega,by omega⟩,⟨by omega,by omega⟩,fun _=>by omega,hs9,hg9⟩
   | guard_hyp z_21
     refine (FM v g A l cap 6 _ HN.out S3.out (by omega)).mono ?_;rintro e w4 ⟨o,rfl,sx,gx⟩
     have S4:=hid sx
     have Q4:=hid (Q3.out.grown gx (by intro e;injection e;omega))
     have G4:=hid (Ar G3.out gx)
     clear sx gx S3 Q3 G3
     cases o
     ·skip
      have kz:∀ i,w4.cell? ⟨w.1.size + 1,i,none⟩ = #[O U 0,O U 0,O U 0,O U 0][i]?:=Q4.out.cell
      have fz:∀ i,w4.frozen? ⟨w.1.size + 1,i,none⟩ = false:=Q4.out.frozen
      go_wp2_with fail
      obtain ⟨w9,e9,⟨d0,d1,d2,d3⟩,hs9,hg9⟩:=EU (x:=1) (y:=a) (z:=0) (u:=0) (show g < w.1.size + 1 by omega) (show w.1.size <= w.1.size + 1 by omega) Q4.out S4.out G4.out
      rw [e9]
      exact bodyPost_ret (v:=σ #[O U (1),O U (a),O U (0),O U (0)]) (by simp [results,results186,go_sem,d0,d1,d2,d3]) rfl ⟨_,_,_,_,rfl,⟨by omega,by omega⟩,⟨by omega,by omega⟩,fun _=>by omega,hs9,hg9⟩
     ·skip
      go_wp2_with fail
      refine (Bp v g A l cap 2 _ HN.out S4.out (by omega)).mono ?_;rintro e w5 ⟨b,rfl,⟨b0,b1⟩,sx,gx⟩
      have S5:=hid sx
      have Q5:=hid (Q4.out.grown gx (by intro e;injection e;omega))
      have G5:=hid (Ar G4.out gx)
      clear sx gx S4 Q4 G4
      have kz:∀ i,w5.cell? ⟨w.1.size + 1,i,none⟩ = #[O U 0,O U 0,O U 0,O U 0][i]?:=Q5.out.cell
      have fz:∀ i,w5.frozen? ⟨w.1.size + 1,i,none⟩ = false:=Q5.out.frozen
      go_wp2_with fail
      obtain ⟨w9,e9,⟨d0,d1,d2,d3⟩,hs9,hg9⟩:=EU (x:=9) (y:=b) (z:=0) (u:=0) (show g < w.1.size + 1 by omega) (show w.1.size <= w.1.size + 1 by omega) Q5.out S5.out G5.out
      rw [e9]
      exact bodyPost_ret (v:=σ #[O U (9),O U (b),O U (0),O U (0)]) (by simp [results,results186,go_sem,d0,d1,d2,d3]) rfl ⟨_,_,_,_,rfl,⟨by omega,by omega⟩,⟨by omega,by omega⟩,fun _=>by omega,hs9,hg9⟩
   | first | guard_hyp z_16 | guard_hyp z_17
     obtain ⟨w9,e9,⟨d0,d1,d2,d3⟩,hs9,hg9⟩:=EU (x:=5) (y:=0) (z:=0) (u:=0) (show g < w.1.size + 1 by omega) (show w.1.size <= w.1.size + 1 by omega) Q3.out S3.out G3.out
     rw [e9]
     exact bodyPost_ret (v:=σ #[O U (5),O U (0),O U (0),O U (0)]) (by simp [results,results186,go_sem,d0,d1,d2,d3]) rfl ⟨_,_,_,_,rfl,⟨by omega,by omega⟩,⟨by omega,by omega⟩,fun _=>by omega,hs9,hg9⟩
   | first | guard_hyp z_1 | guard_hyp z_2 | guard_hyp z_3 | guard_hyp z_4 | guard_hyp z_22
     obtain ⟨w9,e9,⟨d0,d1,d2,d3⟩,hs9,hg9⟩:=EU (x:=1) (y:=a) (z:=0) (u:=0) (show g < w.1.size + 1 by omega) (show w.1.size <= w.1.size + 1 by omega) Q3.out S3.out G3.out
     rw [e9]
     exact bodyPost_ret (v:=σ #[O U (1),O U (a),O U (0),O U (0)]) (by simp [results,results186,go_sem,d0,d1,d2,d3]) rfl ⟨_,_,_,_,rfl,⟨by omega,by omega⟩,⟨by omega,by omega⟩,fun _=>by omega,hs9,hg9⟩
   | first | guard_hyp z_5 | guard_hyp z_6 | guard_hyp z_7 | guard_hyp z_8 | guard_hyp z_9
     refine (Bp v g A l cap 10007 _ HN.out S3.out (by omega)).mono ?_;rintro e w4 ⟨b,rfl,⟨b0,b1⟩,sx,gx⟩
     have S4:=hid sx
     have Q4:=hid (Q3.out.grown gx (by intro e;injection e;omega))
     have G4:=hid (Ar G3.out gx)
     clear sx gx S3 Q3 G3
     have kz:∀ i,w4.cell? ⟨w.1.size + 1,i,none⟩ = #[O U 0,O U 0,O U 0,O U 0][i]?:=Q4.out.cell
     have fz:∀ i,w4.frozen? ⟨w.1.size + 1,i,none⟩ = false:=Q4.out.frozen
     go_wp2_with fail
     obtain ⟨w9,e9,⟨d0,d1,d2,d3⟩,hs9,hg9⟩:=EU (x:=2) (y:=a) (z:=b) (u:=0) (show g < w.1.size + 1 by omega) (show w.1.size <= w.1.size + 1 by omega) Q4.out S4.out G4.out
     rw [e9]
     exact bodyPost_ret (v:=σ #[O U (2),O U (a),O U (b),O U (0)]) (by simp [results,results186,go_sem,d0,d1,d2,d3]) rfl ⟨_,_,_,_,rfl,⟨by omega,by omega⟩,⟨by omega,by omega⟩,fun _=>by omega,hs9,hg9⟩
   | obtain ⟨w9,e9,⟨d0,d1,d2,d3⟩,hs9,hg9⟩:=EU (x:=3) (y:=r) (z:=0) (u:=0) (show g < w.1.size + 1 by omega) (show w.1.size <= w.1.size + 1 by omega) Q3.out S3.out G3.out
     rw [e9]
     exact bodyPost_ret (v:=σ #[O U (3),O U (r),O U (0),O U (0)]) (by simp [results,results186,go_sem,d0,d1,d2,d3]) rfl ⟨_,_,_,_,rfl,⟨by omega,by omega⟩,⟨by omega,by omega⟩,fun _=>by omega,hs9,hg9⟩

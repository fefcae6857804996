import Derived.Test.YteoijmejhdocdaaGreatDoorV39
namespace Go.Proofs.YteoijmejhdocdaaGreatDoor.Mx
open Go.ChangeShapes Go.WideShapes Go.ChangeAt Go.RowKit
set_option linter.unusedVariables false
open Go.Lib (hid)
open Go.Proofs.Tryz
set_option maxRecDepth 20000
set_option maxHeartbeats 64000000
open Value renaming int → O, slice → ψ, bool → φ, agg → σ
open IntKind renaming i64 → U
open Ending renaming returned → τ
def QBox (w:World) (base p:Nat) (key:Int) (v:Value) (zs:List Int):Prop:=
 base <= w.1.size /\ v.ownBlock ≠ some p /\ Aa w p 26 #[O U key,v] /\ Row w base 2 v zs
namespace QBox
variable {w w':World} {base p g:Nat} {key:Int} {v:Value} {zs:List Int}
theorem lt (h:QBox w base p key v zs):p < w.1.size:=h.2.2.1.lt
theorem grown (h:QBox w base p key v zs) (hg:w.grownBy w' (some g)) (hp:g ≠ p) (hb:g < base):QBox w' base p key v zs:=
 ⟨Nat.le_trans h.1 hg.size,h.2.1,h.2.2.1.grown hg (by intro e;injection e with e;exact hp e.symm),h.2.2.2.grown hg hb⟩
theorem alloc (h:QBox w base p key v zs) (o:Obj):QBox (w.alloc o) base p key v zs:=
 ⟨by have:=h.1;simp;omega,h.2.1,Aa.grown h.2.2.1 (World.grownBy_alloc w o none) (by simp),h.2.2.2.alloc o⟩
theorem drew (h:QBox w base p key v zs):QBox w.drew base p key v zs:=⟨h.1,h.2.1,h.2.2.1.drew,⟨h.2.2.2.1.drew,h.2.2.2.2⟩⟩
theorem grew (h:QBox w base p key v zs) (hg:w.grownBy w' v.ownBlock):Aa w' p 26 #[O U key,v] /\ Below base w w':=
 ⟨h.2.2.1.grown hg (fun e=>h.2.1 e.symm),EE hg h.1 (fun k hk=>(h.2.2.2.1.lt k hk).1)⟩
theorem key_ (h:QBox w base p key v zs) (hb:v.ownBlock ≠ some p) (k:Int):QBox (w.setCell ⟨p,0,none⟩ (O U k)) base p k v zs:=
 ⟨by have:=h.1;simp [World.setCell];omega,hb,h.2.2.1.set_ 0 (O U k),by
  refine ⟨h.2.2.2.1.kept (Ai (Aj w (some p)) 0 (O U k)) ?_,h.2.2.2.2⟩
  cases e:v.ownBlock with
  | none=>exact .inl rfl
  | some j=>exact .inr (by rw [<- e];exact hb)⟩
theorem row_ {u v':Value} {ys:List Int} (hb:base <= w.1.size) (hc:Aa w p 26 #[O U key,u]) (hv:v'.ownBlock ≠ some p) (hr:Row w base 2 v' ys):
    QBox (w.setCell ⟨p,1,none⟩ v') base p key v' ys:=
 ⟨by simp [World.setCell];omega,hv,hc.set_ 1 v',by
  refine ⟨hr.1.kept (Ai (Aj w (some p)) 1 v') ?_,hr.2⟩
  cases e:v'.ownBlock with
  | none=>exact .inl rfl
  | some j=>exact .inr (by rw [<- e];exact hv)⟩
end QBox
theorem Gi {b w w3:World} {g p n:Nat} {A:Option Addr} {l:List Int} {cap:Nat} {key:Int} {v:Value} {zs:List Int} (hn:zs.length <= n) (hg:g < w.1.size)
    (hq:QBox w3 (w.1.size + 1) p key v zs) (hk:Aa w3 w.1.size 26 #[O U 0,ψ none 0 0]) (hs:St b g A l cap w3) (hG:w.grownBy w3 (some g)):
    ∃ w4,(w3.setCell ⟨w.1.size,0,none⟩ (O U key)).setCell ⟨w.1.size,1,none⟩ v = w4 /\ (w4.cell? ⟨w.1.size,0,none⟩ = some (O U key) /\ w4.cell? ⟨w.1.size,1,none⟩ = some v) /\
      RE n b w g A l cap (τ (σ #[O U key,v])) w4:=by
 have hk':=(hk.set_ 0 (O U key)).set_ 1 v
 have hr:=(hq.2.2.2.grown (Ai (Aj w3 (some w.1.size)) 0 (O U key)) (by omega)).grown (Ai (Aj _ (some w.1.size)) 1 v) (by omega)
 exact ⟨_,rfl,⟨hk'.cell 0,hk'.cell 1⟩,key,v,zs,rfl,hn,hr.mono (by omega),(hs.set hg 0 (O U key)).set hg 1 v,Ch (Ch hG (lr _) 0 (O U key)) (lr _) 1 v⟩
theorem Ld (v:World) (g:Nat) (A:Option Addr) (l:List Int) (cap:Nat) (w:World) (hn:l.length <= maxLen) (h:St v g A l cap w):
    Calls prog 64 #[.pointer (some ⟨g,0,none⟩)] w (RE 5 v w g A l cap):=by
 have HN:=hid hn
 have HS:=hid h
 have HL:=h.2.lt
 clear hn h
 obtain ⟨i0,hi,hz0,hz1,hz2⟩:=info_parts GF
 go_enter func64,ntmps64
 go_wp2_with fail
 refine (OH v g A l cap _ HN.out (HS.out.alloc _)).mono ?_;rintro e w1 ⟨key,u,zs,rfl,hz,r1,s1,g1⟩
 have S1:=hid s1
 have G1:=hid (Ar (AZ (Aj w (some g)) _) g1)
 have K1:=hid ((Aa.new w 26 #[O U 0,ψ none 0 0]).grown g1 (by intro e;injection e with e;omega))
 have z1:w.1.size < w1.1.size:=by have:=g1.size;simp at this;omega
 have R1:=hid (show Row w1 (w.1.size + 1) 2 u zs from by simpa using r1)
 obtain ⟨q,c,hq,-⟩:=r1.reads
 subst hq
 clear s1 g1 r1
 have Q1:=hid (show QBox (w1.alloc (.cells #[O U key,ψ q zs.length c] 26)) (w.1.size + 1) w1.1.size key (ψ q zs.length c) zs from
  ⟨by simp;omega,by intro e;have:=(R1.out.1.lt _ e).2;omega,Aa.new _ _ _,R1.out.alloc _⟩)
 go_wp2_with fail
 refine (FM v g A l cap 8 _ HN.out (S1.out.alloc _) (by omega)).mono ?_;rintro e w2 ⟨b,rfl,s2,g2⟩
 have S2:=hid s2
 have G2:=hid (Ar (AZ G1.out (.cells #[O U key,ψ q zs.length c] 26)) g2)
 have K2:=hid ((Aa.grown K1.out (World.grownBy_alloc w1 (.cells #[O U key,ψ q zs.length c] 26) none) (by simp)).grown g2 (by intro e;injection e with e;omega))
 have Q2:=hid (Q1.out.grown g2 (by omega) (by omega))
 clear s2 g2 Q1 K1 S1 G1 R1
 rcases b with _ | _
 ·go_upto_region 14 with fail
  have c0:w2.cell? ⟨w1.1.size,0,none⟩ = some (O U key):=Q2.out.2.2.1.cell 0
  have c1:w2.cell? ⟨w1.1.size,1,none⟩ = some (ψ q zs.length c):=Q2.out.2.2.1.cell 1
  have r0:w2.cell? ⟨w.1.size,0,none⟩ = some (O U 0):=K2.out.cell 0
  have r1:w2.cell? ⟨w.1.size,1,none⟩ = some (ψ none 0 0):=K2.out.cell 1
  have f0:=K2.out.frozen 0
  have f1:=K2.out.frozen 1
  go_wp2_with fail
  obtain ⟨w9,e9,⟨d0,d1⟩,hend⟩:=Gi (n:=5) (by omega) HL Q2.out K2.out S2.out G2.out
  rw [e9]
  have HE:=hid hend
  clear e9 hend
  exact bodyPost_ret (v:=σ #[O U key,ψ q zs.length c]) (by simp [results,results64,go_sem,d0,d1]) rfl HE.out
 ·go_wp2_with fail
  refine (Bp v g A l cap 4 w2 HN.out S2.out (by omega)).mono ?_;rintro e w3 ⟨n,rfl,⟨n0,n1⟩,s3,g3⟩
  have S3:=hid s3
  have G3:=hid (Ar G2.out g3)
  have K3:=hid (K2.out.grown g3 (by intro e;injection e with e;omega))
  have Q3:=hid (Q2.out.grown g3 (by omega) (by omega))
  clear s3 g3 Q2 K2 S2 G2
  have hn4:n = 0 \/ n = 1 \/ n = 2 \/ n = 3:=by omega
  clear n0 n1
  rcases hn4 with rfl | rfl | rfl | rfl
  ·go_wp2_with fail
   refine (NC v g A l cap 1000000 w3 HN.out S3.out (by omega) (by omega)).mono ?_;rintro e w4 ⟨x,rfl,-,s4,g4⟩
   have Q4:=Q3.out.grown g4 (by omega) (by omega)
   have c0:w4.cell? ⟨w1.1.size,0,none⟩ = some (O U key):=Q4.2.2.1.cell 0
   have f0:=Q4.2.2.1.frozen 0
   have QX:=hid (Q4.key_ Q4.2.1 x)
   have KX:=hid ((K3.out.grown g4 (by intro e;injection e with e;omega)).grown (Ai (Aj w4 (some w1.1.size)) 0 (O U x)) (by intro e;injection e with e;omega))
   have SX:=hid (s4.set (show g < w1.1.size by omega) 0 (O U x))
   have GX:=hid (Ch (Ar G3.out g4) (show w.1.size <= w1.1.size by omega) 0 (O U x))
   clear Q4 s4 g4 Q3 K3 S3 G3
   go_upto_region 14 with fail
   clear c0 f0
   generalize World.setCell _ _ _ = wX at QX KX SX GX |-
   have c0:wX.cell? ⟨w1.1.size,0,none⟩ = some (O U x):=QX.out.2.2.1.cell 0
   have c1:wX.cell? ⟨w1.1.size,1,none⟩ = some (ψ q zs.length c):=QX.out.2.2.1.cell 1
   have r0:wX.cell? ⟨w.1.size,0,none⟩ = some (O U 0):=KX.out.cell 0
   have r1:wX.cell? ⟨w.1.size,1,none⟩ = some (ψ none 0 0):=KX.out.cell 1
   have f0:=KX.out.frozen 0
   have f1:=KX.out.frozen 1
   go_wp2_with fail
   obtain ⟨w9,e9,⟨d0,d1⟩,hend⟩:=Gi (n:=5) (by omega) HL QX.out KX.out SX.out GX.out
   rw [e9]
   have HE:=hid hend
   clear e9 hend
   exact bodyPost_ret (v:=σ #[O U x,ψ q zs.length c]) (by simp [results,results64,go_sem,d0,d1]) rfl HE.out
  ·go_upto_region 7 with fail
   have c1:w3.cell? ⟨w1.1.size,1,none⟩ = some (ψ q zs.length c):=Q3.out.2.2.1.cell 1
   go_region_law (first
    | (refine step_append_lies _ (by rfl) _ _ _ (by rfl) (w.1.size + 1) 2 i0 _ 1 8 underlying24 hi hz0 hz1 hz2 rfl (by omega) (ψ q zs.length c) zs.length (zs.map (Value.int U)) (by rfl) (PX.out.alloc _).2.2.2.1
        ⟨wx.1.size,0,none⟩ 1 1 [O U y] (by rfl) (by rfl) (World.news_of_block (cs:=#[O U y]) (t:=2) (fr:=(0,0)) (heap_alloc_new wx _)) (by simp [Value.oneCell'])
        (by omega) (by unfold maxLen;omega) (by omega) (by have:=PX.out.1;simp;omega) (wx.1.size + 1) (by simp) ?_
       intro gg cc wy hown hgrow hat hlt2
       have hpg:=(PX.out.alloc (.cells #[O U y] 2)).grew hgrow
       have d1:wy.cell? ⟨w1.1.size,1,none⟩ = some (ψ q zs.length c):=hpg.1.cell 1
       have d2:=hpg.1.frozen 1
       have hne:(Value.slice (some ⟨gg,0,none⟩) (zs.length + 1) cc).ownBlock ≠ some w1.1.size:=by
        rcases hat with h | h
        ·intro e;exact PX.out.2.1 (h.trans e)
        ·intro e;have e2:gg = w1.1.size:=Option.some.inj e;have:=PX.out.lt;omega
       have PY:=hid (QBox.row_ (key:=key) (Nat.le_trans (PX.out.alloc (.cells #[O U y] 2)).1 hgrow.size) hpg.1 hne (Row.snoc PX.out.2.2.2.2 (by omega) (by omega) hown))
       have BY:=hid hpg.2
       clear hown hgrow hat hlt2 hpg hne)
    | (go_simp;go_at_call 48;refine (ID v g A l cap 0 9 _ HN.out ?_ (by omega) (by omega) (by omega)).mono ?_;exact S3.out.drew;rintro e wx ⟨y,rfl,⟨y0,y1⟩,sx,gx⟩
       have PX:=hid (Q3.out.drew.grown gx (by omega) (by omega))
       have SX:=hid sx
       have GX:=hid (Ar (Fi G3.out) gx)
       have KX:=hid (K3.out.drew.grown gx (by intro e;injection e with e;omega))
       have e1:wx.cell? ⟨w1.1.size,1,none⟩ = some (ψ q zs.length c):=PX.out.2.2.1.cell 1
       have e2:∀ o,(wx.alloc o).cell? ⟨w1.1.size,1,none⟩ = some (ψ q zs.length c):=fun o=>(PX.out.alloc o).2.2.1.cell 1
       clear sx gx))
   all_goals
    have SY:=hid (((SX.out.alloc (.cells #[O U y] 2)).below BY.out (by omega)).set (show g < w1.1.size by omega) 1 (ψ (some ⟨gg,0,none⟩) (zs.length + 1) cc))
    have KY:=hid (((Aa.grown KX.out (World.grownBy_alloc wx (.cells #[O U y] 2) none) (by simp)).below BY.out (by omega)).grown (Ai (Aj wy (some w1.1.size)) 1 (ψ (some ⟨gg,0,none⟩) (zs.length + 1) cc)) (by intro e;injection e with e;omega))
    have GY:=hid (Ch (FT (AZ GX.out (.cells #[O U y] 2)) (BY.out.mono (by omega))) (show w.1.size <= w1.1.size by omega) 1 (ψ (some ⟨gg,0,none⟩) (zs.length + 1) cc))
    clear SX KX GX BY PX d1 d2 e1 e2 c1
    go_upto_region 14 with fail
    generalize World.setCell _ _ _ = wX at PY KY SY GY |-
    have c0:wX.cell? ⟨w1.1.size,0,none⟩ = some (O U key):=PY.out.2.2.1.cell 0
    have c1:wX.cell? ⟨w1.1.size,1,none⟩ = some (ψ (some ⟨gg,0,none⟩) (zs.length + 1) cc):=PY.out.2.2.1.cell 1
    have r0:wX.cell? ⟨w.1.size,0,none⟩ = some (O U 0):=KY.out.cell 0
    have r1:wX.cell? ⟨w.1.size,1,none⟩ = some (ψ none 0 0):=KY.out.cell 1
    have f0:=KY.out.frozen 0
    have f1:=KY.out.frozen 1
    go_wp2_with fail
    obtain ⟨w9,e9,⟨d0,d1⟩,hend⟩:=Gi (n:=5) (zs:=zs ++ [y]) (by simp;omega) HL PY.out KY.out SY.out GY.out
    rw [e9]
    have HE:=hid hend
    clear e9 hend
    exact bodyPost_ret (v:=σ #[O U key,ψ (some ⟨gg,0,none⟩) (zs.length + 1) cc]) (by simp [results,results64,go_sem,d0,d1]) rfl HE.out
  ·have q3:=Q3.out.alloc (.cells #[O U 8,O U 8,O U 8] 2)
   have c1:(w3.alloc (.cells #[O U 8,O U 8,O U 8] 2)).cell? ⟨w1.1.size,1,none⟩ = some (ψ q zs.length c):=q3.2.2.1.cell 1
   have f1:=q3.2.2.1.frozen 1
   have R4:Row (w3.alloc (.cells #[O U 8,O U 8,O U 8] 2)) (w.1.size + 1) 2 (ψ (some ⟨w3.1.size,0,none⟩) 3 3) [8,8,8]:=
    ⟨World.ownsRow_lit w3 #[O U 8,O U 8,O U 8] 3 Q3.out.1 (by simp [maxLen]) rfl,by repeat (first | exact I64s.nil | refine I64s.cons (by omega) (by omega) ?_)⟩
   have QX:=hid (QBox.row_ (key:=key) q3.1 q3.2.2.1 (by intro e;have e2:w3.1.size = w1.1.size:=Option.some.inj e;have:=Q3.out.lt;omega) R4)
   have KX:=hid ((Aa.grown K3.out (World.grownBy_alloc w3 (.cells #[O U 8,O U 8,O U 8] 2) none) (by simp)).grown (Ai (Aj _ (some w1.1.size)) 1 (ψ (some ⟨w3.1.size,0,none⟩) 3 3)) (by intro e;injection e with e;omega))
   have SX:=hid ((S3.out.alloc (.cells #[O U 8,O U 8,O U 8] 2)).set (show g < w1.1.size by omega) 1 (ψ (some ⟨w3.1.size,0,none⟩) 3 3))
   have GX:=hid (Ch (AZ G3.out (.cells #[O U 8,O U 8,O U 8] 2)) (show w.1.size <= w1.1.size by omega) 1 (ψ (some ⟨w3.1.size,0,none⟩) 3 3))
   clear q3 R4 K3 S3 G3
   go_wp2_with fail
   clear c1 f1
   generalize World.setCell _ _ _ = wX at QX KX SX GX |-
   refine (FM v g A l cap 2 wX HN.out SX.out (by omega)).mono ?_;rintro e w4 ⟨b,rfl,s4,g4⟩
   have S4:=hid s4
   have G4:=hid (Ar GX.out g4)
   have K4:=hid (KX.out.grown g4 (by intro e;injection e with e;omega))
   have Q4:=hid (QX.out.grown g4 (by omega) (by omega))
   have z4:w1.1.size < w4.1.size:=Q4.out.lt
   clear s4 g4 QX KX SX GX
   generalize w3.1.size = h3 at Q4 |-
   clear Q3
   rcases b with _ | _
   ·go_upto_region 14 with fail
    have c0:w4.cell? ⟨w1.1.size,0,none⟩ = some (O U key):=Q4.out.2.2.1.cell 0
    have c1:w4.cell? ⟨w1.1.size,1,none⟩ = some (ψ (some ⟨h3,0,none⟩) 3 3):=Q4.out.2.2.1.cell 1
    have r0:w4.cell? ⟨w.1.size,0,none⟩ = some (O U 0):=K4.out.cell 0
    have r1:w4.cell? ⟨w.1.size,1,none⟩ = some (ψ none 0 0):=K4.out.cell 1
    have f0:=K4.out.frozen 0
    have f1:=K4.out.frozen 1
    go_wp2_with fail
    obtain ⟨w9,e9,⟨d0,d1⟩,hend⟩:=Gi (n:=5) (by simp) HL Q4.out K4.out S4.out G4.out
    rw [e9]
    have HE:=hid hend
    clear e9 hend
    exact bodyPost_ret (v:=σ #[O U key,ψ (some ⟨h3,0,none⟩) 3 3]) (by simp [results,results64,go_sem,d0,d1]) rfl HE.out
   ·have e1:w4.cell? ⟨w1.1.size,1,none⟩ = some (ψ (some ⟨h3,0,none⟩) 3 3):=Q4.out.2.2.1.cell 1
    go_upto_region 11 with fail
    go_wp2_with (at_builtin;refine wpList_append_lies _ rfl _ _ 24 rfl (w.1.size + 1) 2 i0 (O U 0) 1 8 underlying24 hi hz0 hz1 hz2 rfl (by omega) (ψ (some ⟨h3,0,none⟩) 3 3) 3 ([8,8,8].map (Value.int U)) rfl (Q4.out.alloc _).2.2.2.1 ⟨w4.1.size,0,none⟩ 1 1 [O U 1] rfl rfl (World.news_of_block (cs:=#[O U 1]) (t:=2) (fr:=(0,0)) (heap_alloc_new w4 _)) (by simp [Value.oneCell']) (by omega) (by simp [maxLen]) (by omega) ?e1 (w4.1.size + 1) (by simp) ?_)
    case e1=>have:=Q4.out.1;simp;omega
    intro gg cc wy hown hgrow hat hlt2
    have hpg:=(Q4.out.alloc (.cells #[O U 1] 2)).grew hgrow
    have d1:wy.cell? ⟨w1.1.size,1,none⟩ = some (ψ (some ⟨h3,0,none⟩) 3 3):=hpg.1.cell 1
    have d2:=hpg.1.frozen 1
    have hne:(Value.slice (some ⟨gg,0,none⟩) (3 + 1) cc).ownBlock ≠ some w1.1.size:=by
     rcases hat with h | h
     ·intro e;exact Q4.out.2.1 (h.trans e)
     ·intro e;have e2:gg = w1.1.size:=Option.some.inj e;omega
    have PY:=hid (QBox.row_ (key:=key) (Nat.le_trans (Q4.out.alloc (.cells #[O U 1] 2)).1 hgrow.size) hpg.1 hne (Row.snoc (zs:=[8,8,8]) Q4.out.2.2.2.2 (by omega) (by omega) hown))
    have SY:=hid (((S4.out.alloc (.cells #[O U 1] 2)).below hpg.2 (by omega)).set (show g < w1.1.size by omega) 1 (ψ (some ⟨gg,0,none⟩) (3 + 1) cc))
    have KY:=hid (((Aa.grown K4.out (World.grownBy_alloc w4 (.cells #[O U 1] 2) none) (by simp)).below hpg.2 (by omega)).grown (Ai (Aj wy (some w1.1.size)) 1 (ψ (some ⟨gg,0,none⟩) (3 + 1) cc)) (by intro e;injection e with e;omega))
    have GY:=hid (Ch (FT (AZ G4.out (.cells #[O U 1] 2)) (hpg.2.mono (by omega))) (show w.1.size <= w1.1.size by omega) 1 (ψ (some ⟨gg,0,none⟩) (3 + 1) cc))
    clear hown hgrow hat hlt2 hpg hne S4 K4 G4 Q4 e1
    go_upto_region 14 with fail
    generalize World.setCell _ _ _ = wX at PY KY SY GY |-
    have c0:wX.cell? ⟨w1.1.size,0,none⟩ = some (O U key):=PY.out.2.2.1.cell 0
    have c1:wX.cell? ⟨w1.1.size,1,none⟩ = some (ψ (some ⟨gg,0,none⟩) (3 + 1) cc):=PY.out.2.2.1.cell 1
    have r0:wX.cell? ⟨w.1.size,0,none⟩ = some (O U 0):=KY.out.cell 0
    have r1:wX.cell? ⟨w.1.size,1,none⟩ = some (ψ none 0 0):=KY.out.cell 1
    have f0:=KY.out.frozen 0
    have f1:=KY.out.frozen 1
    go_wp2_with fail
    obtain ⟨w9,e9,⟨d0,d1⟩,hend⟩:=Gi (n:=5) (zs:=[8,8,8] ++ [1]) (by simp) HL PY.out KY.out SY.out GY.out
    rw [e9]
    have HE:=hid hend
    clear e9 hend
    exact bodyPost_ret (v:=σ #[O U key,ψ (some ⟨gg,0,none⟩) (3 + 1) cc]) (by simp [results,results64,go_sem,d0,d1]) rfl HE.out
  ·go_wp2_with fail
   refine (Bp v g A l cap 6 w3 HN.out S3.out (by omega)).mono ?_;rintro e w4 ⟨n,rfl,⟨n0,n1⟩,s4,g4⟩
   obtain ⟨k,rfl⟩:=Int.eq_ofNat_of_zero_le n0
   have hk6:k <= 5:=by omega
   have S4:=hid s4
   have G4:=hid (Ar G3.out g4)
   have K4:=hid (K3.out.grown g4 (by intro e;injection e with e;omega))
   have Q4:=hid (Q3.out.grown g4 (by omega) (by omega))
   have z4:w1.1.size < w4.1.size:=Q4.out.lt
   clear s4 g4 Q3 K3 S3 G3 n0 n1
   have hmk:=run_make_row' (P:=prog) 24 2 (O U 0) 8 underlying24 GF rfl U U k (by omega) (by omega)
   have q4:=Q4.out.alloc (.cells (madeCells #[O U 0] k) 2)
   have c1:(w4.alloc (.cells (madeCells #[O U 0] k) 2)).cell? ⟨w1.1.size,1,none⟩ = some (ψ q zs.length c):=q4.2.2.1.cell 1
   have f1:=q4.2.2.1.frozen 1
   have hmade:(madeCells #[Value.int U 0] k).toList = (List.replicate k (0:Int)).map (Value.int U):=by
    refine List.ext_getElem (by simp [size_madeCells]) fun i h1 h2=>?_
    simp [madeCells,Nat.mod_one]
   have R4:Row (w4.alloc (.cells (madeCells #[O U 0] k) 2)) (w.1.size + 1) 2 (ψ (some ⟨w4.1.size,0,none⟩) k k) (List.replicate k 0):=by
    have h:=World.ownsRow_lit (base:=w.1.size + 1) (e:=2) (size:=1) w4 (madeCells #[O U 0] k) k Q4.out.1 (by simp [maxLen];omega) (by simp [size_madeCells])
    rw [hmade] at h
    refine ⟨by rw [List.length_replicate];exact h,fun i hi=>?_⟩
    rw [List.length_replicate] at hi
    rw [List.getD_eq_getElem?_getD,List.getElem?_replicate,if_pos hi]
    exact ⟨by decide,by decide⟩
   have QX:=hid (QBox.row_ (key:=key) q4.1 q4.2.2.1 (by intro e;have e2:w4.1.size = w1.1.size:=Option.some.inj e;omega) R4)
   have KX:=hid ((Aa.grown K4.out (World.grownBy_alloc w4 (.cells (madeCells #[O U 0] k) 2) none) (by simp)).grown (Ai (Aj _ (some w1.1.size)) 1 (ψ (some ⟨w4.1.size,0,none⟩) k k)) (by intro e;injection e with e;omega))
   have SX:=hid ((S4.out.alloc (.cells (madeCells #[O U 0] k) 2)).set (show g < w1.1.size by omega) 1 (ψ (some ⟨w4.1.size,0,none⟩) k k))
   have GX:=hid (Ch (AZ G4.out (.cells (madeCells #[O U 0] k) 2)) (show w.1.size <= w1.1.size by omega) 1 (ψ (some ⟨w4.1.size,0,none⟩) k k))
   clear q4 hmade R4 Q4 K4 S4 G4 z4
   go_upto_region 14 with fail
   clear hmk c1 f1
   generalize World.setCell _ _ _ = wX at QX KX SX GX |-
   have c0:wX.cell? ⟨w1.1.size,0,none⟩ = some (O U key):=QX.out.2.2.1.cell 0
   have c1:wX.cell? ⟨w1.1.size,1,none⟩ = some (ψ (some ⟨w4.1.size,0,none⟩) k k):=QX.out.2.2.1.cell 1
   have r0:wX.cell? ⟨w.1.size,0,none⟩ = some (O U 0):=KX.out.cell 0
   have r1:wX.cell? ⟨w.1.size,1,none⟩ = some (ψ none 0 0):=KX.out.cell 1
   have f0:=KX.out.frozen 0
   have f1:=KX.out.frozen 1
   go_wp2_with fail
   obtain ⟨w9,e9,⟨d0,d1⟩,hend⟩:=Gi (n:=5) (by simp;omega) HL QX.out KX.out SX.out GX.out
   rw [e9]
   have HE:=hid hend
   clear e9 hend
   exact bodyPost_ret (v:=σ #[O U key,ψ (some ⟨w4.1.size,0,none⟩) k k]) (by simp [results,results64,go_sem,d0,d1]) rfl HE.out
def KG (b v:World) (g:Nat) (A:Option Addr) (l:List Int) (cap:Nat) (L:List Box) (u:World):Prop:=
 b.grownBy u (some g) /\ St v g A l cap u /\ g < b.1.size /\ ∀ x ∈ L,b.1.size <= x.1 /\ Aa u x.1 x.2.1 x.2.2
namespace KG
variable {b v u u':World} {g k p:Nat} {A:Option Addr} {l:List Int} {cap:Nat} {L:List Box} {t:TypeId} {cs cs':Array Value}
theorem start (h:St v g A l cap b):KG b v g A l cap [] b:=⟨Aj _ _,h,h.2.lt,fun x hx=>by cases hx⟩
theorem step (h:KG b v g A l cap L u) (hs:St v g A l cap u') (hg:u.grownBy u' (some g)):KG b v g A l cap L u':=
 ⟨Ar h.1 hg,hs,h.2.2.1,fun x hx=>⟨(h.2.2.2 x hx).1,(h.2.2.2 x hx).2.grown hg (by intro e;injection e with e;have h1:=(h.2.2.2 x hx).1;have h2:=h.2.2.1;omega)⟩⟩
theorem below (h:KG b v g A l cap L u) (hb:Below u.1.size u u'):KG b v g A l cap L u':=
 ⟨FT h.1 (hb.mono h.1.size),h.2.1.below hb (Nat.lt_of_lt_of_le h.2.2.1 h.1.size),h.2.2.1,fun x hx=>⟨(h.2.2.2 x hx).1,(h.2.2.2 x hx).2.below hb (h.2.2.2 x hx).2.lt⟩⟩
theorem drew (h:KG b v g A l cap L u):KG b v g A l cap L u.drew:=⟨Fi h.1,h.2.1.drew,h.2.2.1,fun x hx=>⟨(h.2.2.2 x hx).1,(h.2.2.2 x hx).2.drew⟩⟩
theorem put1 (h:KG b v g A l cap L u) (p:Nat) (t:TypeId) (cs:Array Value) (hp:u.1.size = p):KG b v g A l cap ((p,t,cs) :: L) (u.alloc (.cells cs t)):=by
 subst hp
 have h':=h.below ((Below.refl _ _).alloc (lr _) (.cells cs t))
 refine ⟨h'.1,h'.2.1,h'.2.2.1,fun x hx=>?_⟩
 rcases List.mem_cons.1 hx with rfl | hx
 ·exact ⟨h.1.size,Aa.new u t cs⟩
 ·exact h'.2.2.2 x hx
theorem rd (h:KG b v g A l cap L u):Rd u L:=Rd.of fun x hx=>(h.2.2.2 x hx).2
theorem at_ (h:KG b v g A l cap L u) (hm:(p,t,cs) ∈ L):Aa u p t cs:=(h.2.2.2 _ hm).2
theorem lt (h:KG b v g A l cap L u) {x:Box} (hx:x ∈ L):x.1 < u.1.size:=(h.2.2.2 x hx).2.lt
theorem put (h:KG b v g A l cap L u) (hk:L[k]? = some (p,t,cs)) (ha:Apart L) (hg:u.grownBy u' (some p)) (hc:Aa u' p t cs'):KG b v g A l cap (Nn L k cs') u':=by
 have hm:(p,t,cs) ∈ L:=List.mem_of_getElem? hk
 have hp:b.1.size <= p:=(h.2.2.2 _ hm).1
 have hgp:g < p:=Nat.lt_of_lt_of_le h.2.2.1 hp
 refine ⟨MZ h.1 hg hp,h.2.1.off hg hgp,h.2.2.1,fun x hx=>?_⟩
 unfold Nn at hx
 obtain ⟨j,hj⟩:=List.mem_iff_getElem?.1 hx
 rw [List.getElem?_modify] at hj
 by_cases hkj:k = j
 ·subst hkj
  rw [hk] at hj
  simp only [if_true,Option.map_eq_map,Option.map_some,Option.some.injEq] at hj
  subst hj
  exact ⟨hp,hc⟩
 ·simp only [hkj,if_false,Option.map_eq_map,Option.map_id_fun',id_eq] at hj
  have hxm:=List.mem_of_getElem? hj
  refine ⟨(h.2.2.2 x hxm).1,(h.2.2.2 x hxm).2.grown hg ?_⟩
  intro e
  injection e with e
  unfold Apart at ha
  have h1:(L.map (·.1))[j]? = some x.1:=by rw [List.getElem?_map,hj];rfl
  have h2:(L.map (·.1))[k]? = some p:=by rw [List.getElem?_map,hk];rfl
  rw [<- e] at h2
  have hjl:j < (L.map (·.1)).length:=(List.getElem?_eq_some_iff.1 h1).1
  exact hkj ((List.getElem?_inj hjl ha).1 (h1.trans h2.symm)).symm
end KG
def KB (w v:World) (g:Nat) (A:Option Addr) (l:List Int) (cap:Nat) (L:List Box) (u:World):Prop:=
 Below w.1.size w u /\ St v g A l cap u /\ w.1.size <= g /\ ∀ x ∈ L,(w.1.size <= x.1 /\ x.1 ≠ g) /\ Aa u x.1 x.2.1 x.2.2
namespace KB
variable {w v u u':World} {g k p:Nat} {A:Option Addr} {l:List Int} {cap:Nat} {L:List Box} {t:TypeId} {cs cs':Array Value}
theorem step (h:KB w v g A l cap L u) (hs:St v g A l cap u') (hg:u.grownBy u' (some g)):KB w v g A l cap L u':=
 ⟨bgb h.1 hg h.1.size h.2.2.1,hs,h.2.2.1,fun x hx=>⟨(h.2.2.2 x hx).1,(h.2.2.2 x hx).2.grown hg (by intro e;injection e with e;exact (h.2.2.2 x hx).1.2 e)⟩⟩
theorem below (h:KB w v g A l cap L u) (hb:Below u.1.size u u'):KB w v g A l cap L u':=
 ⟨h.1.trans (hb.mono h.1.size),h.2.1.below hb h.2.1.2.lt,h.2.2.1,fun x hx=>⟨(h.2.2.2 x hx).1,(h.2.2.2 x hx).2.below hb (h.2.2.2 x hx).2.lt⟩⟩
theorem drew (h:KB w v g A l cap L u):KB w v g A l cap L u.drew:=⟨h.1.drew,h.2.1.drew,h.2.2.1,fun x hx=>⟨(h.2.2.2 x hx).1,(h.2.2.2 x hx).2.drew⟩⟩
theorem put1 (h:KB w v g A l cap L u) (p:Nat) (t:TypeId) (cs:Array Value) (hp:u.1.size = p):KB w v g A l cap ((p,t,cs) :: L) (u.alloc (.cells cs t)):=by
 subst hp
 have h':=h.below ((Below.refl _ _).alloc (lr _) (.cells cs t))
 refine ⟨h'.1,h'.2.1,h'.2.2.1,fun x hx=>?_⟩
 rcases List.mem_cons.1 hx with rfl | hx
 ·exact ⟨⟨h.1.size,Nat.ne_of_gt h.2.1.2.lt⟩,Aa.new u t cs⟩
 ·exact h'.2.2.2 x hx
theorem rd (h:KB w v g A l cap L u):Rd u L:=Rd.of fun x hx=>(h.2.2.2 x hx).2
theorem at_ (h:KB w v g A l cap L u) (hm:(p,t,cs) ∈ L):Aa u p t cs:=(h.2.2.2 _ hm).2
theorem lt (h:KB w v g A l cap L u) {x:Box} (hx:x ∈ L):x.1 < u.1.size:=(h.2.2.2 x hx).2.lt
end KB
theorem Cx.drop {L:List Tru} (h:Cx L) (n:Nat):Cx (L.drop n):=by
 intro i hi
 rw [List.length_drop] at hi
 have:=h (n + i) (by omega)
 rwa [List.getD_eq_getElem?_getD,List.getElem?_drop,<- List.getD_eq_getElem?_getD]
theorem Cx.set {L:List Tru} (h:Cx L) (k:Nat) {t:Tru} (ht:TruI t):Cx (L.set k t):=by
 intro i hi
 rw [List.length_set] at hi
 rw [List.getD_eq_getElem?_getD,List.getElem?_set]
 by_cases hk:k = i
 ·subst hk;rw [if_pos rfl,if_pos hi];exact ht
 ·rw [if_neg hk,<- List.getD_eq_getElem?_getD];exact h i hi
theorem Bl.set1 {w:World} {base c g:Nat} {L:List Tru} {k j:Nat} (h:Bl w base (ψ (some ⟨g,0,none⟩) L.length c) L) (hk:k < L.length) (hj:j < 8) (t:Tru) (x:Value) (ht:truV t = (truV (L.getD k default)).set j x):
    Bl (w.setCell ⟨g,k * 8 + j,none⟩ x) base (ψ (some ⟨g,0,none⟩) L.length c) (L.set k t):=by
 have hb:(k + 1) * 8 <= L.length * 8:=Nat.mul_le_mul_right 8 hk
 have h8:=Cg h (i:=k * 8 + j) (by omega) x
 unfold Bl SRow
 rw [List.length_set]
 have e:Af truV (L.set k t) = (Af truV L).set (k * 8 + j) x:=by
  apply List.ext_getElem?
  intro i
  have hlen:(Af truV L).length = L.length * 8:=Ak AD
  rcases Nat.lt_or_ge i (L.length * 8) with hi | hi
  ·rw [Hj AD L k t hk i hi]
   by_cases hin:k * 8 <= i /\ i < (k + 1) * 8
   ·rw [if_pos hin,ht]
    obtain ⟨m,hm,rfl⟩:∃ m,m < 8 /\ i = k * 8 + m:=⟨i - k * 8,by omega,by omega⟩
    rw [Nat.add_sub_cancel_left,List.getElem?_set,List.getElem?_set,Fm AD k m hk hm,AD,hlen]
    by_cases hjm:j = m
    ·subst hjm;rw [if_pos rfl,if_pos rfl,if_pos hj,if_pos hi]
    ·rw [if_neg hjm,if_neg (by omega)]
   ·rw [if_neg hin,List.getElem?_set,if_neg (by omega)]
  ·rw [List.getElem?_eq_none (by rw [Ak AD,List.length_set];exact hi),List.getElem?_eq_none (by rw [List.length_set,hlen];exact hi)]
 rw [e]
 exact h8
def CelS (v w:World) (g:Nat) (A:Option Addr) (l:List Int) (cap:Nat) (e:Ending) (w':World):Prop:=
 ∃ t z:Int,e = τ (σ #[O U t,O U z]) /\ I64 t /\ I64 z /\ St v g A l cap w' /\ w.grownBy w' (some g)
theorem Kn {v w w3:World} {g h:Nat} {A:Option Addr} {l:List Int} {cap:Nat} {x y p q:Int} (hg:g < h) (hw:w.1.size <= h) (hk:Aa w3 h 118 #[O U p,O U q]) (hs:St v g A l cap w3) (hG:w.grownBy w3 (some g)):
    ∃ w4,(w3.setCell ⟨h,0,none⟩ (O U x)).setCell ⟨h,1,none⟩ (O U y) = w4 /\ (w4.cell? ⟨h,0,none⟩ = some (O U x) /\ w4.cell? ⟨h,1,none⟩ = some (O U y)) /\ St v g A l cap w4 /\ w.grownBy w4 (some g):=by
 have hk':=(hk.set_ 0 (O U x)).set_ 1 (O U y)
 exact ⟨_,rfl,⟨hk'.cell 0,hk'.cell 1⟩,(hs.set hg 0 (O U x)).set hg 1 (O U y),Ch (Ch hG hw 0 (O U x)) hw 1 (O U y)⟩
theorem NY (v:World) (g:Nat) (A:Option Addr) (l:List Int) (cap:Nat) (w:World) (hn:l.length <= maxLen) (h:St v g A l cap w):
    Calls prog 188 #[.pointer (some ⟨g,0,none⟩)] w (CelS v w g A l cap):=by
 have HN:=hid hn
 have HS:=hid h
 have HL:=h.2.lt
 clear hn h
 go_enter func188,ntmps188
 go_wp2_with fail
 refine (Bp v g A l cap 12 _ HN.out (HS.out.alloc _) (by omega)).mono ?_;rintro e w1 ⟨x,rfl,⟨x0,x1⟩,s1,g1⟩
 have S1:=hid s1
 have G1:=hid (Ar (AZ (Aj w (some g)) _) g1)
 have K1:=hid ((Aa.new w 118 #[O U 0,O U 0]).grown g1 (by intro e;injection e with e;omega))
 clear s1 g1
 go_wp2_with fail
 refine (Bp v g A l cap 10007 _ HN.out S1.out (by omega)).mono ?_;rintro e w2 ⟨y,rfl,⟨y0,y1⟩,s2,g2⟩
 have S2:=hid s2
 have G2:=hid (Ar G1.out g2)
 have hb:=K1.out.grown g2 (by intro e;injection e with e;omega)
 have K2:=hid hb
 have f0:=hb.frozen 0
 have f1:=hb.frozen 1
 have c0:w2.cell? ⟨w.1.size,0,none⟩ = some (O U 0):=hb.cell 0
 have c1:w2.cell? ⟨w.1.size,1,none⟩ = some (O U 0):=hb.cell 1
 clear s2 g2 hb
 go_wp2_with fail
 obtain ⟨w9,e9,⟨d0,d1⟩,S9,G9⟩:=Kn (x:=x) (y:=y) HL (lr _) K2.out S2.out G2.out
 rw [e9]
 exact bodyPost_ret (v:=σ #[O U x,O U y]) (by simp [results,results188,go_sem,d0,d1]) rfl ⟨x,y,rfl,⟨by omega,by omega⟩,⟨by omega,by omega⟩,S9,G9⟩
theorem Kz (v:World) (g:Nat) (A:Option Addr) (l:List Int) (cap:Nat) (w:World) (hn:l.length <= maxLen) (h:St v g A l cap w):
    Calls prog 123 #[.pointer (some ⟨g,0,none⟩)] w (CelS v w g A l cap):=by
 have HN:=hid hn
 have HS:=hid h
 have HL:=h.2.lt
 clear hn h
 go_enter func123,ntmps123
 go_wp2_with fail
 refine (NY v g A l cap _ HN.out (HS.out.alloc _)).mono ?_;rintro e w1 ⟨x,y,rfl,ix,iy,s1,g1⟩
 have S1:=hid s1
 have G1:=hid (Ar (AZ (Aj w (some g)) _) g1)
 have K1:=hid ((Aa.new w 118 #[O U 0,O U 0]).grown g1 (by intro e;injection e with e;omega))
 have z1:w.1.size < w1.1.size:=by have:=g1.size;simp at this;omega
 have IX:=hid ix
 have IY:=hid iy
 clear s1 g1 ix iy
 go_wp2_with fail
 refine (FM v g A l cap 6 _ HN.out (S1.out.alloc _) (by omega)).mono ?_;rintro e w2 ⟨b,rfl,s2,g2⟩
 have S2:=hid s2
 have G2:=hid (Ar (AZ G1.out _) g2)
 have K2:=hid ((Aa.grown K1.out (World.grownBy_alloc w1 _ none) (by simp)).grown g2 (by intro e;injection e with e;omega))
 have T2:=hid ((Aa.new w1 118 #[O U x,O U y]).grown g2 (by intro e;injection e with e;omega))
 clear s2 g2
 rcases b with _ | _
 ·have f0:=K2.out.frozen 0
  have f1:=K2.out.frozen 1
  have c0:w2.cell? ⟨w1.1.size,0,none⟩ = some (O U x):=T2.out.cell 0
  have c1:w2.cell? ⟨w1.1.size,1,none⟩ = some (O U y):=T2.out.cell 1
  have r0:w2.cell? ⟨w.1.size,0,none⟩ = some (O U 0):=K2.out.cell 0
  have r1:w2.cell? ⟨w.1.size,1,none⟩ = some (O U 0):=K2.out.cell 1
  go_wp2_with fail
  obtain ⟨w9,e9,⟨d0,d1⟩,S9,G9⟩:=Kn (x:=x) (y:=y) HL (lr _) K2.out S2.out G2.out
  rw [e9]
  have SS:=hid S9
  have GG:=hid G9
  clear e9 S9 G9 HL
  exact bodyPost_ret (v:=σ #[O U x,O U y]) (by simp [results,results123,go_sem,d0,d1]) rfl ⟨_,_,rfl,IX.out,IY.out,SS.out,GG.out⟩
 ·go_wp2_with fail
  refine (FM v g A l cap 2 w2 HN.out S2.out (by omega)).mono ?_;rintro e w3 ⟨k,rfl,s3,g3⟩
  have S3:=hid s3
  have G3:=hid (Ar G2.out g3)
  have K3:=hid (K2.out.grown g3 (by intro e;injection e with e;omega))
  have T3:=hid (T2.out.grown g3 (by intro e;injection e with e;omega))
  clear s3 g3 S2 G2 K2 T2 S1 G1 K1
  rcases k with _ | _
  have z_1:=trivial;rotate_left;have z_2:=trivial;rotate_left
  all_goals
   go_wp2_with fail
   first
    | guard_hyp z_1
      refine (NC v g A l cap 10006 w3 HN.out S3.out (by omega) (by omega)).mono ?_;rintro e w4 ⟨u,rfl,iu,s4,g4⟩
    | refine (NC v g A l cap 100000 w3 HN.out S3.out (by omega) (by omega)).mono ?_;rintro e w4 ⟨u,rfl,iu,s4,g4⟩
   have IU:=hid (show I64 u from iu)
   have KK:=hid (K3.out.grown g4 (by intro e;injection e with e;omega))
   have TT:=hid (T3.out.grown g4 (by intro e;injection e with e;omega))
   first
    | guard_hyp z_1
      have K5:=hid (KK.out.grown (Ai (Aj w4 (some w1.1.size)) 1 (O U u)) (by intro e;injection e with e;omega))
      have S5:=hid (s4.set (Nat.lt_trans HL z1) 1 (O U u))
      have G5:=hid (Ch (Ar G3.out g4) (Nat.le_of_lt z1) 1 (O U u))
    | have K5:=hid (KK.out.grown (Ai (Aj w4 (some w1.1.size)) 0 (O U u)) (by intro e;injection e with e;omega))
      have S5:=hid (s4.set (Nat.lt_trans HL z1) 0 (O U u))
      have G5:=hid (Ch (Ar G3.out g4) (Nat.le_of_lt z1) 0 (O U u))
   have f0:=KK.out.frozen 0
   have f1:=KK.out.frozen 1
   first
    | guard_hyp z_1
      have q0:=TT.out.frozen 1
    | have q0:=TT.out.frozen 0
   have c0:w4.cell? ⟨w1.1.size,0,none⟩ = some (O U x):=TT.out.cell 0
   have c1:w4.cell? ⟨w1.1.size,1,none⟩ = some (O U y):=TT.out.cell 1
   have r0:w4.cell? ⟨w.1.size,0,none⟩ = some (O U 0):=KK.out.cell 0
   have r1:w4.cell? ⟨w.1.size,1,none⟩ = some (O U 0):=KK.out.cell 1
   clear s4 g4 iu
   go_wp2_with fail
   first
    | guard_hyp z_1
      obtain ⟨w9,e9,⟨d0,d1⟩,S9,G9⟩:=Kn (x:=x) (y:=u) HL (lr _) K5.out S5.out G5.out
    | obtain ⟨w9,e9,⟨d0,d1⟩,S9,G9⟩:=Kn (x:=u) (y:=y) HL (lr _) K5.out S5.out G5.out
   rw [e9]
   have SS:=hid S9
   have GG:=hid G9
   clear e9 S9 G9 HL
   first
    | guard_hyp z_1
      exact bodyPost_ret (v:=σ #[O U x,O U u]) (by simp [results,results123,go_sem,d0,d1]) rfl ⟨_,_,rfl,IX.out,IU.out,SS.out,GG.out⟩
    | exact bodyPost_ret (v:=σ #[O U u,O U y]) (by simp [results,results123,go_sem,d0,d1]) rfl ⟨_,_,rfl,IU.out,IY.out,SS.out,GG.out⟩

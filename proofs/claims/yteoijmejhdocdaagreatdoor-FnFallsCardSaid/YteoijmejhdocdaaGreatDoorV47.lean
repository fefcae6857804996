import Derived.Test.YteoijmejhdocdaaGreatDoorV38
namespace Go.Proofs.YteoijmejhdocdaaGreatDoor.Mx
open Go.ChangeShapes Go.WideShapes Go.ChangeAt Go.RowKit
set_option linter.unusedVariables false
open Go.Lib (hid)
open Go.Proofs.Tryz
set_option maxRecDepth 20000
set_option maxHeartbeats 64000000
open Value renaming int → O, slice → ψ, bool → φ, agg → σ
open IntKind renaming i64 → U
open Ending renaming returned → τ
theorem AL.nil:AL []:=fun i hi=>by simp at hi
theorem AL.snoc {l:List Int} {x:Int} (h:AL l) (h0:1 <= x) (h1:x <= 8):AL (l ++ [x]):=by
 intro i hi
 rw [List.getD_eq_getElem?_getD]
 rcases Nat.lt_or_ge i l.length with hlt | hge
 ·rw [List.getElem?_append_left hlt]
  have:=h i hlt
  rwa [List.getD_eq_getElem?_getD] at this
 ·have:i = l.length:=by simp at hi;omega
  subst this
  simp
  exact ⟨h0,h1⟩
def RU (w:World) (g:Nat) (A:Option Addr) (l:List Int) (cap:Nat) (e:Ending) (w':World):Prop:=
 ∃ (key:Int) (u:Value) (zs:List Int),e = τ (σ #[O U key,u]) /\ Ay key zs /\ Row w' w.1.size 2 u zs /\ Dice w' g A l cap /\ w.grownBy w' (some g)
theorem NJ (g:Nat) (A:Option Addr) (l:List Int) (cap:Nat) (w:World) (hn:l.length <= maxLen) (h:Dice w g A l cap) (h8:∀ i,i < l.length -> 0 <= l.getD i 0 /\ l.getD i 0 <= 255):
    Calls prog 36 #[.pointer (some ⟨g,0,none⟩)] w (RU w g A l cap):=by
 have HN:=hid hn
 have HS:=hid h
 have H8:=hid h8
 have HL:=h.lt
 clear hn h h8
 obtain ⟨i0,hi,hz0,hz1,hz2⟩:=info_parts GF
 go_enter func36,ntmps36
 go_wp2_with fail
 refine (De g A l cap 100000 _ HN.out (EF HS.out ((Below.refl _ _).alloc (lr _) _)) H8.out (by omega)).mono ?_;rintro e w1 ⟨x,rfl,⟨x0,x1⟩,g1,s1⟩
 have S1:=hid s1
 have G1:=hid (Ar (AZ (Aj w (some g)) _) g1)
 have K1:=hid ((Aa.new w 26 #[O U 0,ψ none 0 0]).grown g1 (by intro e;injection e with e;omega))
 have z1:w.1.size < w1.1.size:=by have:=g1.size;simp at this;omega
 clear s1 g1
 go_wp2_with fail
 refine (De g A l cap 3 _ HN.out (EF S1.out ((Below.refl _ _).alloc (lr _) (.cells #[O U (1 + x),ψ none 0 0] 26))) H8.out (by omega)).mono ?_;rintro e w2 ⟨n,rfl,⟨n0,n1⟩,g2,s2⟩
 have S2:=hid s2
 have G2:=hid (Ar (AZ G1.out (.cells #[O U (1 + x),ψ none 0 0] 26)) g2)
 have K2:=hid ((Aa.grown K1.out (World.grownBy_alloc w1 (.cells #[O U (1 + x),ψ none 0 0] 26) none) (by simp)).grown g2 (by intro e;injection e with e;omega))
 have P2:=hid (PBox.grown (show PBox (w1.alloc (.cells #[O U (1 + x),ψ none 0 0] 26)) (w1.1.size + 1) w1.1.size (1 + x) (ψ none 0 0) [] from
  ⟨by omega,by simp,Aa.new _ _ _,⟨World.ownsRow_nil _ _ _ _,I64s.nil⟩⟩) g2 (by omega))
 clear s2 g2
 obtain ⟨k,rfl⟩:=Int.eq_ofNat_of_zero_le n0
 go_wp2_with fail
 go_loopw [4] (fun i wr=>∃ (j:Nat) (u:Value) (zs:List Int),i = O U j /\ (1 <= j + zs.length /\ j + zs.length <= 3) /\ AL zs /\ PBox wr (w1.1.size + 1) w1.1.size (1 + x) u zs /\ Aa wr w.1.size 26 #[O U 0,ψ none 0 0] /\ Dice wr g A l cap /\ w.grownBy wr (some g)) (fun i _=>(intOf i).toNat)
 case atStart=>exact ⟨1 + k,_,[],by go_num,by simp;omega,AL.nil,P2.out,K2.out,S2.out,G2.out⟩
 case round=>
  obtain ⟨j,u,zs,rfl,⟨hj1,hj⟩,hco,hbox,hres,hst,hgb⟩:=hrel
  have CO:=hid hco
  have PB:=hid hbox
  have KR:=hid hres
  have HT:=hid hst
  have HG:=hid hgb
  have c1:wr.cell? ⟨w1.1.size,1,none⟩ = some u:=hbox.2.2.1.cell 1
  clear hco hbox hres hst hgb
  by_cases hlt:0 < j
  ·go_wp2_with fail
   go_region_law (first
    | (refine step_append_lies _ (by rfl) _ _ _ (by rfl) (w1.1.size + 1) 2 i0 _ 1 8 underlying24 hi hz0 hz1 hz2 rfl (by omega) u zs.length (zs.map (Value.int U)) (by rfl) (PX.out.alloc _).2.2.2.1
        ⟨wx.1.size,0,none⟩ 1 1 [O U (1 + y)] (by rfl) (by rfl) (World.news_of_block (cs:=#[O U (1 + y)]) (t:=2) (fr:=(0,0)) (heap_alloc_new wx _)) (by simp [Value.oneCell'])
        (by omega) (by unfold maxLen;omega) (by omega) (by have:=PX.out.2.1;simp;omega) (wx.1.size + 1) (by simp) ?_
       intro gg cc wy hown hgrow hat hlt2
       have hpg:=(PX.out.alloc (.cells #[O U (1 + y)] 2)).grew (x:=0) (v':=ψ none 0 0) hgrow
       have d1:wy.cell? ⟨w1.1.size,1,none⟩ = some u:=hpg.1.cell 1
       have d2:=hpg.1.frozen 1
       have PY:=hid ((PX.out.alloc (.cells #[O U (1 + y)] 2)).put (v':=ψ (some ⟨gg,0,none⟩) (zs.length + 1) cc) (by omega) (by omega) hown hgrow)
       have BY:=hid hpg.2
       clear hown hgrow hat hlt2 hpg)
    | (go_simp;go_at_call 96;refine (De g A l cap 4 _ HN.out ?_ H8.out (by omega)).mono ?_;exact HT.out.drew;rintro e wx ⟨y,rfl,⟨y0,y1⟩,gx,sx⟩
       have hwy:IntKind.i64.wrap (1 + y) = 1 + y:=IntWalk.i64_in _ (by omega)
       have PX:=hid (PB.out.drew.grown gx (by omega))
       have SX:=hid sx
       have GX:=hid (Ar (Fi HG.out) gx)
       have KX:=hid (KR.out.drew.grown gx (by intro e;injection e with e;omega))
       have e1:wx.cell? ⟨w1.1.size,1,none⟩ = some u:=PX.out.2.2.1.cell 1
       have e2:∀ o,(wx.alloc o).cell? ⟨w1.1.size,1,none⟩ = some u:=fun o=>(PX.out.alloc o).2.2.1.cell 1
       clear sx gx))
   all_goals
    have SY:=hid (((EF SX.out ((Below.refl _ _).alloc (lr _) (.cells #[O U (1 + y)] 2))).below BY.out (by omega)).set (show g < w1.1.size by omega) 1 (ψ (some ⟨gg,0,none⟩) (zs.length + 1) cc))
    have KY:=hid (((Aa.grown KX.out (World.grownBy_alloc wx (.cells #[O U (1 + y)] 2) none) (by simp)).below BY.out (by omega)).grown (Ai (Aj wy (some w1.1.size)) 1 (ψ (some ⟨gg,0,none⟩) (zs.length + 1) cc)) (by intro e;injection e with e;omega))
    have GY:=hid (Ch (FT (AZ GX.out (.cells #[O U (1 + y)] 2)) (BY.out.mono (by omega))) (show w.1.size <= w1.1.size by omega) 1 (ψ (some ⟨gg,0,none⟩) (zs.length + 1) cc))
    have CY:=hid (CO.out.snoc (x:=1 + y) (by omega) (by omega))
    clear SX KX GX BY PX d1 d2 e1 e2
    go_wp2_with fail
    go_roundw
    case rel=>exact ⟨j - 1,_,zs ++ [1 + y],by go_num,by simp;omega,CY.out,PY.out,KY.out,SY.out,GY.out⟩
    case measure=>simp [intOf];omega
  ·obtain rfl:j = 0:=by omega
   have c0:wr.cell? ⟨w1.1.size,0,none⟩ = some (O U (1 + x)):=PB.out.2.2.1.cell 0
   have r0:wr.cell? ⟨w.1.size,0,none⟩ = some (O U 0):=KR.out.cell 0
   have r1:wr.cell? ⟨w.1.size,1,none⟩ = some (ψ none 0 0):=KR.out.cell 1
   have f0:=KR.out.frozen 0
   have f1:=KR.out.frozen 1
   obtain ⟨q,c,hq,-⟩:=PB.out.2.2.2.reads
   have hrow:=PB.out.2.2.2
   have hbb:=PB.out.1
   have hok:Ay (1 + x) zs:=⟨⟨by omega,by omega⟩,⟨by omega,by omega⟩,CO.out,by have:=Dl CO.out (lr zs.length);omega⟩
   have OK:=hid hok
   clear hok
   subst hq
   go_wp2_with fail
   have HR:=hid ((hrow.grown (Ai (Aj wr (some w.1.size)) 0 (O U (1 + x))) (by omega)).grown (Ai (Aj _ (some w.1.size)) 1 (ψ q zs.length c)) (by omega))
   have HS2:=hid ((HT.out.set HL 0 (O U (1 + x))).set HL 1 (ψ q zs.length c))
   have HG2:=hid (Ch (Ch HG.out (lr _) 0 (O U (1 + x))) (lr _) 1 (ψ q zs.length c))
   have hk:=(KR.out.set_ 0 (O U (1 + x))).set_ 1 (ψ q zs.length c)
   clear hrow PB HT HG c0 c1 r0 r1 f0 f1
   generalize World.setCell _ _ _ = w4 at HR HS2 HG2 hk |-
   have d0:w4.cell? ⟨w.1.size,0,none⟩ = some (O U (1 + x)):=hk.cell 0
   have d1:w4.cell? ⟨w.1.size,1,none⟩ = some (ψ q zs.length c):=hk.cell 1
   exact bodyPost_ret (v:=σ #[O U (1 + x),ψ q zs.length c]) (by simp [results,results36,go_sem,d0,d1]) rfl ⟨_,_,zs,rfl,OK.out,HR.out.mono (by omega),HS2.out,HG2.out⟩
structure Ord where
 kind:Int
 a:Int
 b:Int
 c:Int
instance:Inhabited Ord:=⟨⟨0,0,0,0⟩⟩
def ordV (o:Ord):List Value:=[O U o.kind,O U o.a,O U o.b,O U o.c]
theorem In (o:Ord):(ordV o).length = 4:=rfl
def Ord.Fair (n:Nat) (o:Ord):Prop:=(1 <= o.kind /\ o.kind <= 6) /\ (0 <= o.a /\ o.a <= 24) /\ (o.kind = 4 -> o.a < n) /\ (0 <= o.b /\ o.b <= 10006) /\ (o.kind ≠ 2 -> o.b = 0) /\ o.c = 0 /\ (o.kind = 5 -> o.a = 0)
theorem Ord.fair {n:Nat} {k a b:Int} (h1:1 <= k) (h2:k <= 6) (h3:0 <= a) (h4:a <= 24) (h5:k = 4 -> a < n) (h6:0 <= b) (h7:b <= 10006) (h8:k ≠ 2 -> b = 0) (h9:k = 5 -> a = 0):Ord.Fair n ⟨k,a,b,0⟩:=⟨⟨h1,h2⟩,⟨h3,h4⟩,h5,⟨h6,h7⟩,h8,rfl,h9⟩
def SK (n:Nat) (w:World) (g:Nat) (A:Option Addr) (l:List Int) (cap:Nat) (e:Ending) (w':World):Prop:=
 ∃ o:Ord,e = τ (σ #[O U o.kind,O U o.a,O U o.b,O U o.c]) /\ o.Fair n /\ Dice w' g A l cap /\ w.grownBy w' (some g)
def Iu (w:World) (g:Nat) (A:Option Addr) (l:List Int) (cap base:Nat) (key:Int) (P:Option Addr) (zs:List Int) (pc:Nat) (u:World):Prop:=
 Dice u g A l cap /\ w.grownBy u (some g) /\ (Aa u w.1.size 26 #[O U key,ψ P zs.length pc] /\ Aa u (w.1.size + 1) 56 #[O U 0,O U 0,O U 0,O U 0]) /\ Row u base 2 (ψ P zs.length pc) zs /\ g < w.1.size /\ g < base
section
variable {w u u':World} {g:Nat} {A:Option Addr} {l:List Int} {cap base:Nat} {key:Int} {P:Option Addr} {zs:List Int} {pc:Nat}
theorem Iu.throw (h:Iu w g A l cap base key P zs pc u) (hd:Dice u' g A l cap) (hg:u.grownBy u' (some g)):Iu w g A l cap base key P zs pc u':=by
 obtain ⟨h1,h2,⟨h3,h4⟩,h5,h6,h7⟩:=h
 exact ⟨hd,Ar h2 hg,⟨h3.grown hg (by intro e;injection e with e;omega),h4.grown hg (by intro e;injection e with e;omega)⟩,h5.grown hg h7,h6,h7⟩
theorem Iu.below (h:Iu w g A l cap base key P zs pc u) (hb:Below u.1.size u u'):Iu w g A l cap base key P zs pc u':=by
 obtain ⟨h1,h2,⟨h3,h4⟩,h5,h6,h7⟩:=h
 exact ⟨EF h1 hb,FT h2 (hb.mono h2.size),⟨h3.below hb h3.lt,h4.below hb h4.lt⟩,h5.below hb,h6,h7⟩
theorem Iu.end_ {x y z t:Value} (h:Iu w g A l cap base key P zs pc u):
    ∃ w4,(((u.setCell ⟨w.1.size + 1,0,none⟩ x).setCell ⟨w.1.size + 1,1,none⟩ y).setCell ⟨w.1.size + 1,2,none⟩ z).setCell ⟨w.1.size + 1,3,none⟩ t = w4 /\ (w4.cell? ⟨w.1.size + 1,0,none⟩ = some x /\ w4.cell? ⟨w.1.size + 1,1,none⟩ = some y /\ w4.cell? ⟨w.1.size + 1,2,none⟩ = some z /\ w4.cell? ⟨w.1.size + 1,3,none⟩ = some t) /\ Dice w4 g A l cap /\ w.grownBy w4 (some g):=by
 obtain ⟨h1,h2,⟨h3,h4⟩,h5,h6,h7⟩:=h
 have hc:=(((h4.set_ 0 x).set_ 1 y).set_ 2 z).set_ 3 t
 have hg:g < w.1.size + 1:=by omega
 exact ⟨_,rfl,⟨hc.cell 0,hc.cell 1,hc.cell 2,hc.cell 3⟩,(((h1.set hg 0 x).set hg 1 y).set hg 2 z).set hg 3 t,Ch (Ch (Ch (Ch h2 (Nat.le_succ _) 0 x) (Nat.le_succ _) 1 y) (Nat.le_succ _) 2 z) (Nat.le_succ _) 3 t⟩
end
theorem Row.intsF {u:World} {base:Nat} {Q:Option Addr} {zs:List Int} {c:Nat} (h:Row u base 2 (ψ Q zs.length c) zs):Ints u U u.1.size Q zs:=by
 obtain ⟨A,c',e,hi⟩:=h.reads
 injection e with e1 e2 e3
 subst e1
 exact hi
theorem Po {key:Int} {zs:List Int} (hp:Ay key zs):1 <= Bi key zs /\ Bi key zs <= 24:=by
 have h1:=hp.2.1.1
 have h2:upTo zs 1 = upTo zs 0 + zs.getD 0 0:=Dd zs (show 0 < zs.length by omega)
 have h3:=Cy hp.2.2.1 (i:=1) (j:=zs.length) (by omega) (lr _)
 have h4:=(hp.2.2.1 0 (by omega)).1
 have h5:=DS zs
 have h6:=hp.2.2.2
 unfold Bi
 rw [if_pos hp]
 omega
theorem Pm (g:Nat) (A:Option Addr) (l:List Int) (cap:Nat) (w:World) (base:Nat) (key:Int) (P:Option Addr) (zs:List Int) (pc:Nat) (hn:l.length <= maxLen) (hd:Dice w g A l cap) (h8:∀ i,i < l.length -> 0 <= l.getD i 0 /\ l.getD i 0 <= 255) (hp:Ay key zs) (hR:Row w base 2 (ψ P zs.length pc) zs) (hg:g < base):
    Calls prog 97 #[.pointer (some ⟨g,0,none⟩),σ #[O U key,ψ P zs.length pc]] w (SK zs.length w g A l cap):=by
 have HN:=hid hn
 have H8:=hid h8
 have hgl:=hd.lt
 have hpl:=hp.2.1.1
 have hpu:=hp.2.1.2
 obtain ⟨hs1,hs2⟩:=Po hp
 have SE:=hid (fun (u:World) (hR:Row u base 2 (ψ P zs.length pc) zs)=>FR key P zs pc u (by unfold maxLen;omega) hR.intsF)
 have b0:Below w.1.size w ((w.alloc (.cells #[O U key,ψ P zs.length pc] 26)).alloc (.cells #[O U 0,O U 0,O U 0,O U 0] 56)):=(Ap w (.cells #[O U key,ψ P zs.length pc] 26)).trans ((Ap _ (.cells #[O U 0,O U 0,O U 0,O U 0] 56)).mono (by simp))
 have K0:=hid (show Iu w g A l cap base key P zs pc ((w.alloc (.cells #[O U key,ψ P zs.length pc] 26)).alloc (.cells #[O U 0,O U 0,O U 0,O U 0] 56)) from ⟨EF hd b0,BV b0 (some g),⟨Aa.grown (Aa.new w _ _) (World.grownBy_alloc _ _ none) (by simp),by have q:=Aa.new (w.alloc (.cells #[O U key,ψ P zs.length pc] 26)) 56 #[O U 0,O U 0,O U 0,O U 0];rwa [show (w.alloc (.cells #[O U key,ψ P zs.length pc] 26)).1.size = w.1.size + 1 by simp] at q⟩,hR.below b0,hgl,hg⟩)
 clear hn h8 hd hR b0
 generalize Bi key zs = sn at SE hs1 hs2
 go_enter func97,ntmps97
 go_upto_region 1 with fail
 generalize World.alloc _ _ = w0 at K0 |-
 have pc0:=K0.out.2.2.1.1.cell
 go_wp2_with fail
 refine (SE.out _ K0.out.2.2.2.1).mono ?_;rintro e w1 ⟨rfl,b1⟩
 have K1:=hid (K0.out.below b1)
 clear b1 pc0 K0
 go_wp2_with fail
 refine (De g A l cap sn _ HN.out K1.out.1 H8.out hs1).mono ?_;rintro e w2 ⟨at_,rfl,⟨a0,a1⟩,g2,s2⟩
 have K2:=hid (K1.out.throw s2 g2)
 clear g2 s2 K1
 have pc0:=K2.out.2.2.1.1.cell
 go_wp2_with (at_builtin)
 refine (De g A l cap zs.length _ HN.out K2.out.1 H8.out (by omega)).mono ?_;rintro e w3 ⟨r,rfl,⟨r0,r1⟩,g3,s3⟩
 have K3:=hid (K2.out.throw s3 g3)
 clear g3 s3 K2 pc0
 go_wp2_with fail
 refine (De g A l cap 16 _ HN.out K3.out.1 H8.out (by omega)).mono ?_;rintro e w4 ⟨k,rfl,⟨k0,k1⟩,g4,s4⟩
 have K4:=hid (K3.out.throw s4 g4)
 clear g4 s4 K3
 have hk:k = 0 \/ k = 1 \/ k = 2 \/ k = 3 \/ k = 4 \/ k = 5 \/ k = 6 \/ k = 7 \/ k = 8 \/ k = 9 \/ k = 10 \/ k = 11 \/ k = 12 \/ k = 13 \/ k = 14 \/ k = 15:=by omega
 clear k0 k1
 rcases hk with rfl | rfl | rfl | rfl | rfl | rfl | rfl | rfl | rfl | rfl | rfl | rfl | rfl | rfl | rfl | rfl
 have z_1:=trivial;rotate_left;have z_2:=trivial;rotate_left;have z_3:=trivial;rotate_left;have z_4:=trivial;rotate_left;have z_5:=trivial;rotate_left;have z_6:=trivial;rotate_left;have z_7:=trivial;rotate_left;have z_8:=trivial;rotate_left;have z_9:=trivial;rotate_left;have z_10:=trivial;rotate_left;have z_11:=trivial;rotate_left;have z_12:=trivial;rotate_left;have z_13:=trivial;rotate_left;have z_14:=trivial;rotate_left;have z_15:=trivial;rotate_left;have z_16:=trivial;rotate_left
 all_goals
  first
   | first | guard_hyp z_1 | guard_hyp z_2 | guard_hyp z_3 | guard_hyp z_4 | guard_hyp z_5 | guard_hyp z_11
   | have oc:=K4.out.2.2.1.2.cell
     have of:=K4.out.2.2.1.2.frozen
  go_wp2_with fail
  first
   | guard_hyp z_9
     obtain ⟨w9,e9,⟨d0,d1,d2,d3⟩,hd9,hg9⟩:=K4.out.end_ (x:=O U 4) (y:=O U r) (z:=O U 0) (t:=O U 0)
   | guard_hyp z_10
     obtain ⟨w9,e9,⟨d0,d1,d2,d3⟩,hd9,hg9⟩:=K4.out.end_ (x:=O U 5) (y:=O U 0) (z:=O U 0) (t:=O U 0)
   | guard_hyp z_11
     refine (De g A l cap 4 _ HN.out K4.out.1 H8.out (by omega)).mono ?_;rintro e w5 ⟨v,rfl,⟨v0,v1⟩,g5,s5⟩
     have K5:=hid (K4.out.throw s5 g5)
     clear g5 s5 K4
     have oc:=K5.out.2.2.1.2.cell
     have of:=K5.out.2.2.1.2.frozen
     go_wp2_with fail
     obtain ⟨w9,e9,⟨d0,d1,d2,d3⟩,hd9,hg9⟩:=K5.out.end_ (x:=O U 6) (y:=O U v) (z:=O U 0) (t:=O U 0)
   | first | guard_hyp z_6 | guard_hyp z_7 | guard_hyp z_8
     obtain ⟨w9,e9,⟨d0,d1,d2,d3⟩,hd9,hg9⟩:=K4.out.end_ (x:=O U 1) (y:=O U at_) (z:=O U 0) (t:=O U 0)
   | first | guard_hyp z_1 | guard_hyp z_2 | guard_hyp z_3 | guard_hyp z_4 | guard_hyp z_5
     refine (De g A l cap 10007 _ HN.out K4.out.1 H8.out (by omega)).mono ?_;rintro e w5 ⟨v,rfl,⟨v0,v1⟩,g5,s5⟩
     have K5:=hid (K4.out.throw s5 g5)
     clear g5 s5 K4
     have oc:=K5.out.2.2.1.2.cell
     have of:=K5.out.2.2.1.2.frozen
     go_wp2_with fail
     obtain ⟨w9,e9,⟨d0,d1,d2,d3⟩,hd9,hg9⟩:=K5.out.end_ (x:=O U 2) (y:=O U at_) (z:=O U v) (t:=O U 0)
   | obtain ⟨w9,e9,⟨d0,d1,d2,d3⟩,hd9,hg9⟩:=K4.out.end_ (x:=O U 3) (y:=O U r) (z:=O U 0) (t:=O U 0)
  rw [e9]
  first
   | guard_hyp z_9
     exact bodyPost_ret (v:=σ #[O U 4,O U r,O U 0,O U 0]) (by simp [results,results97,go_sem,d0,d1,d2,d3]) rfl ⟨⟨4,r,0,0⟩,rfl,Ord.fair (by omega) (by omega) (by omega) (by omega) (by omega) (by omega) (by omega) (by omega) (by omega),hd9,hg9⟩
   | guard_hyp z_10
     exact bodyPost_ret (v:=σ #[O U 5,O U 0,O U 0,O U 0]) (by simp [results,results97,go_sem,d0,d1,d2,d3]) rfl ⟨⟨5,0,0,0⟩,rfl,Ord.fair (by omega) (by omega) (by omega) (by omega) (by omega) (by omega) (by omega) (by omega) (by omega),hd9,hg9⟩
   | guard_hyp z_11
     exact bodyPost_ret (v:=σ #[O U 6,O U v,O U 0,O U 0]) (by simp [results,results97,go_sem,d0,d1,d2,d3]) rfl ⟨⟨6,v,0,0⟩,rfl,Ord.fair (by omega) (by omega) (by omega) (by omega) (by omega) (by omega) (by omega) (by omega) (by omega),hd9,hg9⟩
   | first | guard_hyp z_6 | guard_hyp z_7 | guard_hyp z_8
     exact bodyPost_ret (v:=σ #[O U 1,O U at_,O U 0,O U 0]) (by simp [results,results97,go_sem,d0,d1,d2,d3]) rfl ⟨⟨1,at_,0,0⟩,rfl,Ord.fair (by omega) (by omega) (by omega) (by omega) (by omega) (by omega) (by omega) (by omega) (by omega),hd9,hg9⟩
   | first | guard_hyp z_1 | guard_hyp z_2 | guard_hyp z_3 | guard_hyp z_4 | guard_hyp z_5
     exact bodyPost_ret (v:=σ #[O U 2,O U at_,O U v,O U 0]) (by simp [results,results97,go_sem,d0,d1,d2,d3]) rfl ⟨⟨2,at_,v,0⟩,rfl,Ord.fair (by omega) (by omega) (by omega) (by omega) (by omega) (by omega) (by omega) (by omega) (by omega),hd9,hg9⟩
   | exact bodyPost_ret (v:=σ #[O U 3,O U r,O U 0,O U 0]) (by simp [results,results97,go_sem,d0,d1,d2,d3]) rfl ⟨⟨3,r,0,0⟩,rfl,Ord.fair (by omega) (by omega) (by omega) (by omega) (by omega) (by omega) (by omega) (by omega) (by omega),hd9,hg9⟩
theorem IB {B:Nat} {w w':World} {r:Option Nat} (hg:w.grownBy w' r) (hB:B <= w.1.size) (hr:∀ k,r = some k -> B <= k):Below B w w':=
 ⟨hg.os,hg.tape,hg.output,hg.size,fun k hk=>hg.block k (Nat.lt_of_lt_of_le hk hB) (fun e=>by have:=hr k e.symm;omega)⟩
theorem Rr:(prog.info? 56).map (fun i=>(i.zero,i.size,i.bytes)) = some (some (σ #[O U 0,O U 0,O U 0,O U 0]),4,32):=by kernel_rfl
abbrev JO:=SRow ordV 4 56
def Ql (n:Nat) (w:World) (g:Nat) (A:Option Addr) (l:List Int) (cap:Nat) (hi:Nat) (e:Ending) (w':World):Prop:=
 ∃ (v:Value) (L:List Ord),e = τ v /\ JO w' w.1.size v L /\ (∀ i,i < L.length -> (L.getD i default).Fair n) /\ L.length <= hi /\ Dice w' g A l cap /\ w.grownBy w' (some g)
theorem Qn {n:Nat} {L:List Ord} {o:Ord} (h:∀ i,i < L.length -> (L.getD i default).Fair n) (ho:o.Fair n):∀ i,i < (L ++ [o]).length -> ((L ++ [o]).getD i default).Fair n:=by
 intro i hi
 rw [List.getD_eq_getElem?_getD]
 rcases Nat.lt_or_ge i L.length with hlt | hge
 ·rw [List.getElem?_append_left hlt]
  have:=h i hlt
  rwa [List.getD_eq_getElem?_getD] at this
 ·have:i = L.length:=by simp at hi;omega
  subst this
  simpa using ho
theorem Ip (g:Nat) (A:Option Addr) (l:List Int) (cap:Nat) (w:World) (base:Nat) (key:Int) (P:Option Addr) (zs:List Int) (pc:Nat) (most:Int) (hm:1 <= most) (hm2:most <= 20) (hn:l.length <= maxLen) (hd:Dice w g A l cap) (h8:∀ i,i < l.length -> 0 <= l.getD i 0 /\ l.getD i 0 <= 255) (hp:Ay key zs) (hR:Row w base 2 (ψ P zs.length pc) zs) (hg:g < base):
    Calls prog 37 #[.pointer (some ⟨g,0,none⟩),σ #[O U key,ψ P zs.length pc],O U most] w (Ql zs.length w g A l cap 29):=by
 have HN:=hid hn
 have H8:=hid h8
 have hgl:=hd.lt
 have FC:=hid (fun (u:World) (hd:Dice u g A l cap) (hR:Row u base 2 (ψ P zs.length pc) zs)=>Pm g A l cap u base key P zs pc hn hd h8 hp hR hg)
 have HD:=hid hd
 have HR:=hid hR
 have PLT:=hid (show ∀ k,(Value.slice P zs.length pc).ownBlock = some k -> k < w.1.size from fun k e=>(World.ownsRow.lt hR.1 k e).2)
 clear hn h8 hp hd hR
 go_enter func37,ntmps37
 go_upto_region 2 with fail
 have b0:Below w.1.size w ((w.alloc (.cells #[O U key,ψ P zs.length pc] 26)).alloc (.cells #[] 56)):=(Ap w (.cells #[O U key,ψ P zs.length pc] 26)).trans ((Ap _ (.cells #[] 56)).mono (by simp))
 have c0:Aa ((w.alloc (.cells #[O U key,ψ P zs.length pc] 26)).alloc (.cells #[] 56)) w.1.size 26 #[O U key,ψ P zs.length pc]:=Aa.grown (Aa.new w _ _) (World.grownBy_alloc _ _ none) (by simp)
 have r0:JO ((w.alloc (.cells #[O U key,ψ P zs.length pc] 26)).alloc (.cells #[] 56)) w.1.size (ψ (some ⟨w.1.size + 1,0,none⟩) 0 0) []:=by
  have q:=SRow.made (enc:=ordV) (n:=4) (T:=56) (base:=w.1.size) (w.alloc (.cells #[O U key,ψ P zs.length pc] 26)) (by simp)
  rwa [show (w.alloc (.cells #[O U key,ψ P zs.length pc] 26)).1.size = w.1.size + 1 by simp] at q
 have z0:((w.alloc (.cells #[O U key,ψ P zs.length pc] 26)).alloc (.cells #[] 56)).1.size = w.1.size + 1 + 1:=by simp
 generalize World.alloc _ _ = w0 at b0 c0 r0 z0 |-
 have B0:=hid (And.intro b0 (And.intro c0 r0))
 clear b0 c0 r0
 go_wp2_with fail
 refine (De g A l cap most _ HN.out (EF HD.out B0.out.1) H8.out hm).mono ?_;rintro e w1 ⟨k,rfl,⟨k0,k1⟩,g1,s1⟩
 obtain ⟨n,rfl⟩:=Int.eq_ofNat_of_zero_le k0
 have hw1:IntKind.i64.wrap (10 + (n:Int)) = ((10 + n:Nat):Int):=by rw [IntWalk.i64_in _ (by omega)];omega
 have I0:=hid (show Dice w1 g A l cap /\ w.grownBy w1 (some g) /\ Aa w1 w.1.size 26 #[O U key,ψ P zs.length pc] /\ Row w1 base 2 (ψ P zs.length pc) zs /\ JO w1 w.1.size (ψ (some ⟨w.1.size + 1,0,none⟩) 0 0) [] /\ w.1.size + 1 + 1 <= w1.1.size from
  ⟨s1,Ar (BV B0.out.1 (some g)) g1,B0.out.2.1.grown g1 (by intro e;injection e with e;omega),(HR.out.below B0.out.1).grown g1 hg,B0.out.2.2.grown g1 hgl,by have:=g1.size;omega⟩)
 clear g1 s1 B0 HD HR z0
 go_wp2_with fail
 go_loopw [7,8] (fun v i u=>∃ (j:Nat) (v':Value) (L:List Ord),v' = v /\ i = O U j /\ L.length + j <= 29 /\ (Dice u g A l cap /\ w.grownBy u (some g) /\ Aa u w.1.size 26 #[O U key,ψ P zs.length pc] /\ Row u base 2 (ψ P zs.length pc) zs /\ JO u w.1.size v L /\ w.1.size + 1 + 1 <= u.1.size) /\ (∀ g',v'.ownBlock = some g' -> w.1.size < g') /\ (∀ i,i < L.length -> (L.getD i default).Fair zs.length)) (fun _ i _=>(intOf i).toNat)
 case atStart=>exact ⟨10 + n,_,[],rfl,by go_num,by simp;omega,I0.out,by intro g' e;simp [Value.ownBlock] at e;omega,fun i hi=>by simp at hi⟩
 case round=>
  obtain ⟨j,v',L,rfl,rfl,hL,⟨h1,h2,h3,h4,h5,h6⟩,h7,h9⟩:=hrel
  clear I0
  by_cases hj:0 < j
  ·have hj':(0:Int) < j:=by omega
   have hw2:IntKind.i64.wrap ((j:Int) - 1) = ((j - 1:Nat):Int):=by rw [IntWalk.i64_in _ (by omega)];omega
   have pc0:=h3.cell
   have HH:=hid (And.intro h1 (And.intro h2 (And.intro h3 (And.intro h4 (And.intro h5 (And.intro h7 h9))))))
   clear h1 h2 h3 h4 h5 h7 h9
   go_wp2_with fail
   refine (FC.out _ HH.out.1 HH.out.2.2.2.1).mono ?_;rintro e u1 ⟨o,rfl,fo,d1,g1⟩
   have hrow:=HH.out.2.2.2.2.1.grown g1 hgl
   have hc1:=HH.out.2.2.1.grown g1 (by intro e;injection e with e;omega)
   have hR1:=HH.out.2.2.2.1.grown g1 hg
   have hb:=Ap u1 (.cells #[O U o.kind,O U o.a,O U o.b,O U o.c] 56)
   have hsz:=g1.size
   have hnew:=Aa.new u1 56 #[O U o.kind,O U o.a,O U o.b,O U o.c]
   have HW:=hid (show ∀ i u,[O U o.kind,O U o.a,O U o.b,O U o.c][i]? = some u -> ∃ ad,some (⟨u1.1.size,0,none⟩:Addr) = some ad /\ (u1.alloc (.cells #[O U o.kind,O U o.a,O U o.b,O U o.c] 56)).cell? (ad.add i) = some u from fun i u hi=>⟨_,rfl,by rw [show Addr.add ⟨u1.1.size,0,none⟩ i = ⟨u1.1.size,i,none⟩ by unfold Addr.add;split <;> simp_all,hnew.cell i];simpa using hi⟩)
   have AA:=hid (show Dice (u1.alloc (.cells #[O U o.kind,O U o.a,O U o.b,O U o.c] 56)) g A l cap /\ w.grownBy (u1.alloc (.cells #[O U o.kind,O U o.a,O U o.b,O U o.c] 56)) (some g) /\ Aa (u1.alloc (.cells #[O U o.kind,O U o.a,O U o.b,O U o.c] 56)) w.1.size 26 #[O U key,ψ P zs.length pc] /\ Row (u1.alloc (.cells #[O U o.kind,O U o.a,O U o.b,O U o.c] 56)) base 2 (ψ P zs.length pc) zs /\ JO (u1.alloc (.cells #[O U o.kind,O U o.a,O U o.b,O U o.c] 56)) w.1.size v' L /\ (u1.alloc (.cells #[O U o.kind,O U o.a,O U o.b,O U o.c] 56)).1.size = u1.1.size + 1 from
    ⟨EF d1 hb,FT (Ar HH.out.2.1 g1) (hb.mono (by omega)),hc1.below hb hc1.lt,hR1.below hb,hrow.alloc _,by simp⟩)
   have H7:=hid (And.intro HH.out.2.2.2.2.2.1 (Qn HH.out.2.2.2.2.2.2 fo))
   clear hb hnew hrow hc1 hR1 g1 d1 pc0 HH
   go_wp2_with (at_builtin;refine Cc rfl _ _ 49 rfl w.1.size 56 4 32 L.length (σ #[O U 0,O U 0,O U 0,O U 0]) v' (Af ordV L) (some ⟨u1.1.size,0,none⟩) 1 1 [O U o.kind,O U o.a,O U o.b,O U o.c] underlying49 Rr rfl (by omega) rfl AA.out.2.2.2.2.1 rfl rfl HW.out (by simp [Value.oneCell']) (by unfold maxLen;omega) (by omega) (by rw [AA.out.2.2.2.2.2];omega) ?_)
   intro v9 u9 hown hg9 hat
   have hb9:Below (w.1.size + 1) (u1.alloc (.cells #[O U o.kind,O U o.a,O U o.b,O U o.c] 56)) u9:=IB hg9 (by rw [AA.out.2.2.2.2.2];omega) (fun k e=>H7.out.1 k e)
   have hr9:JO u9 w.1.size v9 (L ++ [o]):=by
    show u9.ownsRow _ _ 4 v9 _ _
    rw [List.length_append,LB]
    exact hown
   have hR9:Row u9 base 2 (ψ P zs.length pc) zs:=⟨World.ownsRow.kept AA.out.2.2.2.1.1 hg9 (by
    cases e:(Value.slice P zs.length pc).ownBlock with
    | none=>exact .inl rfl
    | some k=>exact .inr (fun e2=>by have h1:=PLT.out k e;have h2:=H7.out.1 k e2.symm;omega)),AA.out.2.2.2.1.2⟩
   have h79:∀ g',v9.ownBlock = some g' -> w.1.size < g':=fun g' e=>by
    rcases hat with h | h
    ·exact H7.out.1 g' (h.symm.trans e)
    ·rw [e] at h
     have h2:=Option.some.inj h
     rw [h2]
     exact Nat.lt_of_lt_of_le (show w.1.size < u1.1.size by omega) (by simp)
   have NX:=hid (show (Dice u9 g A l cap /\ w.grownBy u9 (some g) /\ Aa u9 w.1.size 26 #[O U key,ψ P zs.length pc] /\ Row u9 base 2 (ψ P zs.length pc) zs /\ JO u9 w.1.size v9 (L ++ [o]) /\ w.1.size + 1 + 1 <= u9.1.size) /\ (∀ g',v9.ownBlock = some g' -> w.1.size < g') from
    ⟨⟨AA.out.1.below hb9 (by omega),FT AA.out.2.1 (hb9.mono (Nat.le_succ _)),AA.out.2.2.1.below hb9 (Nat.lt_succ_self _),hR9,hr9,by have:=hb9.size;rw [AA.out.2.2.2.2.2] at this;omega⟩,h79⟩)
   clear hown hg9 hat hb9 hr9 hR9 h79 AA HW
   go_wp2_with fail
   go_roundw
   case rel=>exact ⟨j - 1,_,L ++ [o],rfl,by go_num,by simp;omega,NX.out.1,NX.out.2,H7.out.2⟩
   case measure=>simp [intOf];omega
  ·obtain rfl:j = 0:=by omega
   have FN:=hid (show Ql zs.length w g A l cap 29 (τ v') wr from ⟨v',L,rfl,h5,h9,by omega,h1,h2⟩)
   clear h1 h2 h3 h4 h5 h7 h9
   go_wp2_with fail
   go_ret
   exact FN.out

import Derived.Test.YteoijmejhdocdaaGreatDoorV34
import Derived.OwnWalk
import Derived.Deep.RegionLaw
namespace Go.Proofs.YteoijmejhdocdaaGreatDoor.Mx
open Go.ChangeShapes Go.WideShapes Go.ChangeAt Go.RowKit
set_option linter.unusedVariables false
open Go.Lib (hid)
open Go.Proofs.Tryz
set_option maxRecDepth 20000
set_option maxHeartbeats 64000000
open Value renaming int → O, slice → ψ, bool → φ, agg → σ
open IntKind renaming i64 → U
open Ending renaming returned → τ
def BitS (v w:World) (g:Nat) (A:Option Addr) (l:List Int) (cap:Nat) (e:Ending) (w':World):Prop:=
 ∃ x:Bool,e = τ (φ x) /\ St v g A l cap w' /\ w.grownBy w' (some g)
theorem FM (v:World) (g:Nat) (A:Option Addr) (l:List Int) (cap:Nat) (n:Int) (w:World) (hn:l.length <= maxLen) (h:St v g A l cap w) (h1:1 <= n):
    Calls prog 83 #[.pointer (some ⟨g,0,none⟩),O U n] w (BitS v w g A l cap):=
 (Il g A l cap n w hn h.2 h1).mono fun _ _ ⟨x,he,hg,hc⟩=>⟨x,he,⟨bgb h.1 hg (Nat.le_of_lt h.2.lt) (lr _),hc⟩,hg⟩
theorem Cur.set {w:World} {g:Nat} {A:Option Addr} {l:List Int} {cap:Nat} (h:Cur w g A l cap) {b:Nat} (hb:g < b) (i:Nat) (u:Value):Cur (w.setCell ⟨b,i,none⟩ u) g A l cap:=
 h.gb (Ai (Aj w (some b)) i u) hb
theorem St.set {v w:World} {g:Nat} {A:Option Addr} {l:List Int} {cap:Nat} (h:St v g A l cap w) {b:Nat} (hb:g < b) (i:Nat) (u:Value):St v g A l cap (w.setCell ⟨b,i,none⟩ u):=
 ⟨bgb h.1 (Ai (Aj w (some b)) i u) (Nat.le_of_lt h.2.lt) (Nat.le_of_lt hb),h.2.set hb i u⟩
theorem Ch {w w':World} {g b:Nat} (h:w.grownBy w' (some g)) (hb:w.1.size <= b) (i:Nat) (u:Value):w.grownBy (w'.setCell ⟨b,i,none⟩ u) (some g):=
 ⟨h.os,h.tape,h.output,by simpa [World.setCell] using h.size,fun k hk hr=>(Below.heap_setCell _ _ _ _ (by simp;omega)).trans (h.block k hk hr)⟩
theorem FT {a b c:World} {g:Nat} (h:a.grownBy b (some g)) (hb:Below a.1.size b c):a.grownBy c (some g):=
 ⟨hb.os.trans h.os,hb.tape.trans h.tape,hb.output.trans h.output,Nat.le_trans h.size hb.size,fun k hk hr=>(hb.block k hk).trans (h.block k hk hr)⟩
theorem St.below {v w w':World} {g B:Nat} {A:Option Addr} {l:List Int} {cap:Nat} (h:St v g A l cap w) (hb:Below B w w') (hg:g < B):St v g A l cap w':=
 ⟨h.1.trans (hb.mono (Nat.le_of_lt hg)),h.2.below hb hg⟩
theorem Row.alloc {w:World} {base t:Nat} {v:Value} {zs:List Int} (h:Row w base t v zs) (o:Obj):Row (w.alloc o) base t v zs:=⟨h.1.alloc o,h.2⟩
theorem Row.mono {w:World} {base base' t:Nat} {v:Value} {zs:List Int} (h:Row w base t v zs) (hb:base' <= base):Row w base' t v zs:=by
 refine ⟨⟨h.1.1,?_⟩,h.2⟩
 rcases h.1.2 with h0 | ⟨g,cap,cur,e,hg,r⟩
 ·exact .inl h0
 ·exact .inr ⟨g,cap,cur,e,Nat.le_trans hb hg,r⟩
theorem Row.reads_cap {w:World} {base t:Nat} {v:Value} {zs:List Int} (h:Row w base t v zs):∃ A c,v = ψ A zs.length c /\ Ints w U w.1.size A zs /\ zs.length <= c:=by
 rcases h.1.2 with ⟨rfl,hn⟩ | ⟨g,cap,cur,rfl,hb,hg,hnc,hcm,hcs,htake⟩
 ·have:zs = []:=List.length_eq_zero_iff.1 hn
  subst this
  exact ⟨none,0,rfl,Ints.nil,lr _⟩
 ·obtain ⟨A,c,e,hI⟩:=h.reads
  injection e with e1 e2 e3
  subst e1 e3
  exact ⟨_,cap,rfl,hI,hnc⟩
theorem Dice.drew {w:World} {g:Nat} {A:Option Addr} {l:List Int} {cap:Nat} (h:Dice w g A l cap):Dice w.drew g A l cap:=by
 obtain ⟨hA,i,x,hi,hc⟩:=h
 exact ⟨hA,i,x,hi,hc⟩
theorem Dice.set {w:World} {g:Nat} {A:Option Addr} {l:List Int} {cap:Nat} (h:Dice w g A l cap) {b:Nat} (hb:g < b) (i:Nat) (u:Value):Dice (w.setCell ⟨b,i,none⟩ u) g A l cap:=by
 have hlt:=h.lt
 obtain ⟨hA,j,x,hi,hc⟩:=h
 exact ⟨hA.gb (Ai (Aj w (some b)) i u) (Nat.le_of_lt hlt) (Nat.le_of_lt hb),j,x,hi,hc.grown (Ai (Aj w (some b)) i u) (by intro e;injection e with e;omega)⟩
theorem EF {u w:World} {g:Nat} {A:Option Addr} {l:List Int} {cap:Nat} (h:Dice u g A l cap) (hb:Below u.1.size u w):Dice w g A l cap:=h.below hb h.lt
theorem ID (v:World) (g:Nat) (A:Option Addr) (l:List Int) (cap:Nat) (lo hi:Int) (w:World) (hn:l.length <= maxLen) (h:St v g A l cap w) (h0:-100 <= lo) (h1:lo <= hi) (h2:hi <= 100):
    Calls prog 48 #[.pointer (some ⟨g,0,none⟩),O U lo,O U hi] w (NumS lo hi v w g A l cap):=by
 have C:=hid (fun w h=>Bp v g A l cap (hi - lo + 1) w hn h (by omega))
 have HS:=hid h
 clear hn h
 go_enter func48,ntmps48
 go_wp2_with fail
 refine (C.out _ HS.out).mono ?_;rintro e w1 ⟨x,rfl,⟨x0,x1⟩,s1,g1⟩
 have S1:=hid s1
 have G1:=hid g1
 clear s1 g1
 go_wp2_with fail
 go_ret
 exact ⟨_,rfl,⟨by omega,by omega⟩,S1.out,G1.out⟩
def PBox (w:World) (base p:Nat) (key:Int) (v:Value) (zs:List Int):Prop:=p < base /\ base <= w.1.size /\ Aa w p 26 #[O U key,v] /\ Row w base 2 v zs
theorem PBox.grown {w w':World} {base p g:Nat} {key:Int} {v:Value} {zs:List Int} (h:PBox w base p key v zs) (hg:w.grownBy w' (some g)) (hp:g < p):PBox w' base p key v zs:=
 ⟨h.1,Nat.le_trans h.2.1 hg.size,h.2.2.1.grown hg (by intro e;injection e with e;omega),h.2.2.2.grown hg (by have:=h.1;omega)⟩
theorem PBox.alloc {w:World} {base p:Nat} {key:Int} {v:Value} {zs:List Int} (h:PBox w base p key v zs) (o:Obj):PBox (w.alloc o) base p key v zs:=
 ⟨h.1,by have:=h.2.1;simp;omega,Aa.grown h.2.2.1 (World.grownBy_alloc w o none) (by simp),h.2.2.2.alloc o⟩
theorem PBox.drew {w:World} {base p:Nat} {key:Int} {v:Value} {zs:List Int} (h:PBox w base p key v zs):PBox w.drew base p key v zs:=
 ⟨h.1,h.2.1,h.2.2.1.drew,⟨h.2.2.2.1.drew,h.2.2.2.2⟩⟩
theorem PBox.grew {w w':World} {base p:Nat} {key x:Int} {v v':Value} {zs:List Int} (h:PBox w base p key v zs) (hg:w.grownBy w' v.ownBlock):
    Aa w' p 26 #[O U key,v] /\ Below base w w':=by
 have hlt:=h.2.2.2.1.lt
 refine ⟨h.2.2.1.grown hg ?_,EE hg h.2.1 (fun k hk=>(hlt k hk).1)⟩
 intro e
 have:=(hlt p e.symm).1
 have:=h.1
 omega
theorem PBox.put {w w':World} {base p:Nat} {key x:Int} {v v':Value} {zs:List Int} (h:PBox w base p key v zs) (x0:-9223372036854775808 <= x) (x1:x <= 9223372036854775807)
    (hw:w'.ownsRow base 2 1 v' (zs.length + 1) (zs.map (Value.int U) ++ [Value.int U x])) (hg:w.grownBy w' v.ownBlock):PBox (w'.setCell ⟨p,1,none⟩ v') base p key v' (zs ++ [x]):=by
 have hc:=(h.grew (x:=x) (v':=v') hg).1
 refine ⟨h.1,by have:=hg.size;have:=h.2.1;simp [World.setCell];omega,hc.set_ 1 v',?_⟩
 exact (Row.snoc h.2.2.2.2 x0 x1 hw).grown (Ai (Aj w' (some p)) 1 v') h.1
def RE (n:Nat) (v w:World) (g:Nat) (A:Option Addr) (l:List Int) (cap:Nat) (e:Ending) (w':World):Prop:=
 ∃ (key:Int) (u:Value) (zs:List Int),e = τ (σ #[O U key,u]) /\ zs.length <= n /\ Row w' w.1.size 2 u zs /\ St v g A l cap w' /\ w.grownBy w' (some g)
theorem OH (v:World) (g:Nat) (A:Option Addr) (l:List Int) (cap:Nat) (w:World) (hn:l.length <= maxLen) (h:St v g A l cap w):
    Calls prog 134 #[.pointer (some ⟨g,0,none⟩)] w (RE 3 v w g A l cap):=by
 have HN:=hid hn
 have HS:=hid h
 have HL:=h.2.lt
 clear hn h
 obtain ⟨i0,hi,hz0,hz1,hz2⟩:=info_parts GF
 go_enter func134,ntmps134
 go_wp2_with fail
 refine (Bp v g A l cap 500 _ HN.out (HS.out.alloc _) (by omega)).mono ?_;rintro e w1 ⟨x,rfl,⟨x0,x1⟩,s1,g1⟩
 have S1:=hid s1
 have G1:=hid (Ar (AZ (Aj w (some g)) _) g1)
 have K1:=hid ((Aa.new w 26 #[O U 0,ψ none 0 0]).grown g1 (by intro e;injection e with e;omega))
 have z1:w.1.size < w1.1.size:=by have:=g1.size;simp at this;omega
 clear s1 g1
 go_wp2_with fail
 refine (Bp v g A l cap 3 _ HN.out (S1.out.alloc _) (by omega)).mono ?_;rintro e w2 ⟨n,rfl,⟨n0,n1⟩,s2,g2⟩
 have S2:=hid s2
 have G2:=hid (Ar (AZ G1.out (.cells #[O U (1 + x),ψ none 0 0] 26)) g2)
 have K2:=hid ((Aa.grown K1.out (World.grownBy_alloc w1 (.cells #[O U (1 + x),ψ none 0 0] 26) none) (by simp)).grown g2 (by intro e;injection e with e;omega))
 have P2:=hid (PBox.grown (show PBox (w1.alloc (.cells #[O U (1 + x),ψ none 0 0] 26)) (w1.1.size + 1) w1.1.size (1 + x) (ψ none 0 0) [] from
  ⟨by omega,by simp,Aa.new _ _ _,⟨World.ownsRow_nil _ _ _ _,I64s.nil⟩⟩) g2 (by omega))
 clear s2 g2
 obtain ⟨k,rfl⟩:=Int.eq_ofNat_of_zero_le n0
 go_wp2_with fail
 go_loopw [4] (fun i wr=>∃ (j:Nat) (u:Value) (zs:List Int),i = O U j /\ j + zs.length <= 3 /\ PBox wr (w1.1.size + 1) w1.1.size (1 + x) u zs /\ Aa wr w.1.size 26 #[O U 0,ψ none 0 0] /\ St v g A l cap wr /\ w.grownBy wr (some g)) (fun i _=>(intOf i).toNat)
 case atStart=>exact ⟨1 + k,_,[],by go_num,by simp;omega,P2.out,K2.out,S2.out,G2.out⟩
 case round=>
  obtain ⟨j,u,zs,rfl,hj,hbox,hres,hst,hgb⟩:=hrel
  have PB:=hid hbox
  have KR:=hid hres
  have HT:=hid hst
  have HG:=hid hgb
  have c1:wr.cell? ⟨w1.1.size,1,none⟩ = some u:=hbox.2.2.1.cell 1
  clear hbox hres hst hgb
  by_cases hlt:0 < j
  ·go_wp2_with fail
   go_region_law (first
    | (refine step_append_lies _ (by rfl) _ _ _ (by rfl) (w1.1.size + 1) 2 i0 _ 1 8 underlying24 hi hz0 hz1 hz2 rfl (by omega) u zs.length (zs.map (Value.int U)) (by rfl) (PX.out.alloc _).2.2.2.1
        ⟨wx.1.size,0,none⟩ 1 1 [O U (1 + y)] (by rfl) (by rfl) (World.news_of_block (cs:=#[O U (1 + y)]) (t:=2) (fr:=(0,0)) (heap_alloc_new wx _)) (by simp [Value.oneCell'])
        (by omega) (by unfold maxLen;omega) (by omega) (by have:=PX.out.2.1;simp;omega) (wx.1.size + 1) (by simp) ?_
       intro gg cc wy hown hgrow hat hlt2
       have hpg:=(PX.out.alloc (.cells #[O U (1 + y)] 2)).grew (x:=0) (v':=ψ none 0 0) hgrow
       have d1:wy.cell? ⟨w1.1.size,1,none⟩ = some u:=hpg.1.cell 1
       have d2:=hpg.1.frozen 1
       have PY:=hid ((PX.out.alloc (.cells #[O U (1 + y)] 2)).put (v':=ψ (some ⟨gg,0,none⟩) (zs.length + 1) cc) (by omega) (by omega) hown hgrow)
       have BY:=hid hpg.2
       clear hown hgrow hat hlt2 hpg)
    | (go_simp;go_at_call 84;refine (Bp v g A l cap 3 _ HN.out ?_ (by omega)).mono ?_;exact HT.out.drew;rintro e wx ⟨y,rfl,⟨y0,y1⟩,sx,gx⟩
       have hwy:IntKind.i64.wrap (1 + y) = 1 + y:=IntWalk.i64_in _ (by omega)
       have PX:=hid (PB.out.drew.grown gx (by omega))
       have SX:=hid sx
       have GX:=hid (Ar (Fi HG.out) gx)
       have KX:=hid (KR.out.drew.grown gx (by intro e;injection e with e;omega))
       have e1:wx.cell? ⟨w1.1.size,1,none⟩ = some u:=PX.out.2.2.1.cell 1
       have e2:∀ o,(wx.alloc o).cell? ⟨w1.1.size,1,none⟩ = some u:=fun o=>(PX.out.alloc o).2.2.1.cell 1
       clear sx gx))
   all_goals
    have SY:=hid (((SX.out.alloc (.cells #[O U (1 + y)] 2)).below BY.out (by omega)).set (show g < w1.1.size by omega) 1 (ψ (some ⟨gg,0,none⟩) (zs.length + 1) cc))
    have KY:=hid (((Aa.grown KX.out (World.grownBy_alloc wx (.cells #[O U (1 + y)] 2) none) (by simp)).below BY.out (by omega)).grown (Ai (Aj wy (some w1.1.size)) 1 (ψ (some ⟨gg,0,none⟩) (zs.length + 1) cc)) (by intro e;injection e with e;omega))
    have GY:=hid (Ch (FT (AZ GX.out (.cells #[O U (1 + y)] 2)) (BY.out.mono (by omega))) (show w.1.size <= w1.1.size by omega) 1 (ψ (some ⟨gg,0,none⟩) (zs.length + 1) cc))
    clear SX KX GX BY PX d1 d2 e1 e2
    go_wp2_with fail
    go_roundw
    case rel=>exact ⟨j - 1,_,zs ++ [1 + y],by go_num,by simp;omega,PY.out,KY.out,SY.out,GY.out⟩
    case measure=>simp [intOf];omega
  ·obtain rfl:j = 0:=by omega
   have c0:wr.cell? ⟨w1.1.size,0,none⟩ = some (O U (1 + x)):=PB.out.2.2.1.cell 0
   have r0:wr.cell? ⟨w.1.size,0,none⟩ = some (O U 0):=KR.out.cell 0
   have r1:wr.cell? ⟨w.1.size,1,none⟩ = some (ψ none 0 0):=KR.out.cell 1
   have f0:=KR.out.frozen 0
   have f1:=KR.out.frozen 1
   obtain ⟨q,c,hq,-⟩:=PB.out.2.2.2.reads
   have hrow:=PB.out.2.2.2
   have hbb:=PB.out.1
   subst hq
   go_wp2_with fail
   have HR:=hid ((hrow.grown (Ai (Aj wr (some w.1.size)) 0 (O U (1 + x))) (by omega)).grown (Ai (Aj _ (some w.1.size)) 1 (ψ q zs.length c)) (by omega))
   have HS2:=hid ((HT.out.set HL 0 (O U (1 + x))).set HL 1 (ψ q zs.length c))
   have HG2:=hid (Ch (Ch HG.out (lr _) 0 (O U (1 + x))) (lr _) 1 (ψ q zs.length c))
   have hk:=(KR.out.set_ 0 (O U (1 + x))).set_ 1 (ψ q zs.length c)
   clear hrow PB HT HG c0 c1 r0 r1 f0 f1
   generalize World.setCell _ _ _ = w4 at HR HS2 HG2 hk |-
   have d0:w4.cell? ⟨w.1.size,0,none⟩ = some (O U (1 + x)):=hk.cell 0
   have d1:w4.cell? ⟨w.1.size,1,none⟩ = some (ψ q zs.length c):=hk.cell 1
   exact bodyPost_ret (v:=σ #[O U (1 + x),ψ q zs.length c]) (by simp [results,results134,go_sem,d0,d1]) rfl ⟨_,_,zs,rfl,by omega,HR.out.mono (by omega),HS2.out,HG2.out⟩
theorem Nd:AL []:=fun i hi=>by simp at hi
theorem Mn {l:List Int} {x:Int} (h:AL l) (h0:1 <= x) (h1:x <= 8):AL (l ++ [x]):=by
 intro i hi
 rw [List.getD_eq_getElem?_getD]
 rcases Nat.lt_or_ge i l.length with hlt | hge
 ·rw [List.getElem?_append_left hlt]
  have:=h i hlt
  rwa [List.getD_eq_getElem?_getD] at this
 ·have:i = l.length:=by simp at hi;omega
  subst this
  simp
  exact ⟨h0,h1⟩
def SP (v w:World) (g:Nat) (A:Option Addr) (l:List Int) (cap:Nat) (e:Ending) (w':World):Prop:=
 ∃ (key:Int) (u:Value) (zs:List Int),e = τ (σ #[O U key,u]) /\ Ay key zs /\ Row w' w.1.size 2 u zs /\ St v g A l cap w' /\ w.grownBy w' (some g)
theorem Na (v:World) (g:Nat) (A:Option Addr) (l:List Int) (cap:Nat) (w:World) (hn:l.length <= maxLen) (h:St v g A l cap w):
    Calls prog 134 #[.pointer (some ⟨g,0,none⟩)] w (SP v w g A l cap):=by
 have HN:=hid hn
 have HS:=hid h
 have HL:=h.2.lt
 clear hn h
 obtain ⟨i0,hi,hz0,hz1,hz2⟩:=info_parts GF
 go_enter func134,ntmps134
 go_wp2_with fail
 refine (Bp v g A l cap 500 _ HN.out (HS.out.alloc _) (by omega)).mono ?_;rintro e w1 ⟨x,rfl,⟨x0,x1⟩,s1,g1⟩
 have S1:=hid s1
 have G1:=hid (Ar (AZ (Aj w (some g)) _) g1)
 have K1:=hid ((Aa.new w 26 #[O U 0,ψ none 0 0]).grown g1 (by intro e;injection e with e;omega))
 have z1:w.1.size < w1.1.size:=by have:=g1.size;simp at this;omega
 clear s1 g1
 go_wp2_with fail
 refine (Bp v g A l cap 3 _ HN.out (S1.out.alloc _) (by omega)).mono ?_;rintro e w2 ⟨n,rfl,⟨n0,n1⟩,s2,g2⟩
 have S2:=hid s2
 have G2:=hid (Ar (AZ G1.out (.cells #[O U (1 + x),ψ none 0 0] 26)) g2)
 have K2:=hid ((Aa.grown K1.out (World.grownBy_alloc w1 (.cells #[O U (1 + x),ψ none 0 0] 26) none) (by simp)).grown g2 (by intro e;injection e with e;omega))
 have P2:=hid (PBox.grown (show PBox (w1.alloc (.cells #[O U (1 + x),ψ none 0 0] 26)) (w1.1.size + 1) w1.1.size (1 + x) (ψ none 0 0) [] from
  ⟨by omega,by simp,Aa.new _ _ _,⟨World.ownsRow_nil _ _ _ _,I64s.nil⟩⟩) g2 (by omega))
 clear s2 g2
 obtain ⟨k,rfl⟩:=Int.eq_ofNat_of_zero_le n0
 go_wp2_with fail
 go_loopw [4] (fun i wr=>∃ (j:Nat) (u:Value) (zs:List Int),i = O U j /\ j + zs.length = 1 + k /\ AL zs /\ PBox wr (w1.1.size + 1) w1.1.size (1 + x) u zs /\ Aa wr w.1.size 26 #[O U 0,ψ none 0 0] /\ St v g A l cap wr /\ w.grownBy wr (some g)) (fun i _=>(intOf i).toNat)
 case atStart=>exact ⟨1 + k,_,[],by go_num,by simp,Nd,P2.out,K2.out,S2.out,G2.out⟩
 case round=>
  obtain ⟨j,u,zs,rfl,hj,hco,hbox,hres,hst,hgb⟩:=hrel
  have HC:=hid hco
  clear hco
  have hj3:j + zs.length <= 3:=by omega
  have HJ:=hid hj
  clear hj
  have PB:=hid hbox
  have KR:=hid hres
  have HT:=hid hst
  have HG:=hid hgb
  have c1:wr.cell? ⟨w1.1.size,1,none⟩ = some u:=hbox.2.2.1.cell 1
  clear hbox hres hst hgb
  by_cases hlt:0 < j
  ·go_wp2_with fail
   go_region_law (first
    | (refine step_append_lies _ (by rfl) _ _ _ (by rfl) (w1.1.size + 1) 2 i0 _ 1 8 underlying24 hi hz0 hz1 hz2 rfl (by omega) u zs.length (zs.map (Value.int U)) (by rfl) (PX.out.alloc _).2.2.2.1
        ⟨wx.1.size,0,none⟩ 1 1 [O U (1 + y)] (by rfl) (by rfl) (World.news_of_block (cs:=#[O U (1 + y)]) (t:=2) (fr:=(0,0)) (heap_alloc_new wx _)) (by simp [Value.oneCell'])
        (by omega) (by unfold maxLen;omega) (by omega) (by have:=PX.out.2.1;simp;omega) (wx.1.size + 1) (by simp) ?_
       intro gg cc wy hown hgrow hat hlt2
       have hpg:=(PX.out.alloc (.cells #[O U (1 + y)] 2)).grew (x:=0) (v':=ψ none 0 0) hgrow
       have d1:wy.cell? ⟨w1.1.size,1,none⟩ = some u:=hpg.1.cell 1
       have d2:=hpg.1.frozen 1
       have PY:=hid ((PX.out.alloc (.cells #[O U (1 + y)] 2)).put (v':=ψ (some ⟨gg,0,none⟩) (zs.length + 1) cc) (by omega) (by omega) hown hgrow)
       have BY:=hid hpg.2
       clear hown hgrow hat hlt2 hpg)
    | (go_simp;go_at_call 84;refine (Bp v g A l cap 3 _ HN.out ?_ (by omega)).mono ?_;exact HT.out.drew;rintro e wx ⟨y,rfl,⟨y0,y1⟩,sx,gx⟩
       have hwy:IntKind.i64.wrap (1 + y) = 1 + y:=IntWalk.i64_in _ (by omega)
       have PX:=hid (PB.out.drew.grown gx (by omega))
       have SX:=hid sx
       have GX:=hid (Ar (Fi HG.out) gx)
       have KX:=hid (KR.out.drew.grown gx (by intro e;injection e with e;omega))
       have e1:wx.cell? ⟨w1.1.size,1,none⟩ = some u:=PX.out.2.2.1.cell 1
       have e2:∀ o,(wx.alloc o).cell? ⟨w1.1.size,1,none⟩ = some u:=fun o=>(PX.out.alloc o).2.2.1.cell 1
       clear sx gx))
   all_goals
    have SY:=hid (((SX.out.alloc (.cells #[O U (1 + y)] 2)).below BY.out (by omega)).set (show g < w1.1.size by omega) 1 (ψ (some ⟨gg,0,none⟩) (zs.length + 1) cc))
    have KY:=hid (((Aa.grown KX.out (World.grownBy_alloc wx (.cells #[O U (1 + y)] 2) none) (by simp)).below BY.out (by omega)).grown (Ai (Aj wy (some w1.1.size)) 1 (ψ (some ⟨gg,0,none⟩) (zs.length + 1) cc)) (by intro e;injection e with e;omega))
    have GY:=hid (Ch (FT (AZ GX.out (.cells #[O U (1 + y)] 2)) (BY.out.mono (by omega))) (show w.1.size <= w1.1.size by omega) 1 (ψ (some ⟨gg,0,none⟩) (zs.length + 1) cc))
    clear SX KX GX BY PX d1 d2 e1 e2
    go_wp2_with fail
    go_roundw
    case rel=>exact ⟨j - 1,_,zs ++ [1 + y],by go_num,by have:=HJ.out;simp;omega,Mn HC.out (by omega) (by omega),PY.out,KY.out,SY.out,GY.out⟩
    case measure=>simp [intOf];omega
  ·obtain rfl:j = 0:=by omega
   have c0:wr.cell? ⟨w1.1.size,0,none⟩ = some (O U (1 + x)):=PB.out.2.2.1.cell 0
   have r0:wr.cell? ⟨w.1.size,0,none⟩ = some (O U 0):=KR.out.cell 0
   have r1:wr.cell? ⟨w.1.size,1,none⟩ = some (ψ none 0 0):=KR.out.cell 1
   have f0:=KR.out.frozen 0
   have f1:=KR.out.frozen 1
   obtain ⟨q,c,hq,-⟩:=PB.out.2.2.2.reads
   have hrow:=PB.out.2.2.2
   have hbb:=PB.out.1
   subst hq
   go_wp2_with fail
   have HR:=hid ((hrow.grown (Ai (Aj wr (some w.1.size)) 0 (O U (1 + x))) (by omega)).grown (Ai (Aj _ (some w.1.size)) 1 (ψ q zs.length c)) (by omega))
   have HS2:=hid ((HT.out.set HL 0 (O U (1 + x))).set HL 1 (ψ q zs.length c))
   have HG2:=hid (Ch (Ch HG.out (lr _) 0 (O U (1 + x))) (lr _) 1 (ψ q zs.length c))
   have hk:=(KR.out.set_ 0 (O U (1 + x))).set_ 1 (ψ q zs.length c)
   clear hrow PB HT HG c0 c1 r0 r1 f0 f1
   generalize World.setCell _ _ _ = w4 at HR HS2 HG2 hk |-
   have d0:w4.cell? ⟨w.1.size,0,none⟩ = some (O U (1 + x)):=hk.cell 0
   have d1:w4.cell? ⟨w.1.size,1,none⟩ = some (ψ q zs.length c):=hk.cell 1
   exact bodyPost_ret (v:=σ #[O U (1 + x),ψ q zs.length c]) (by simp [results,results134,go_sem,d0,d1]) rfl ⟨_,_,zs,rfl,by have hj:=HJ.out;exact ⟨⟨by omega,by omega⟩,⟨by omega,by omega⟩,HC.out,by have:=(Dl HC.out (k:=zs.length) (lr _)).2;omega⟩,HR.out.mono (by omega),HS2.out,HG2.out⟩

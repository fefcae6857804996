import Derived.Test.YteoijmejhdocdaaGreatDoorV48
import Derived.LaidLaws
import Derived.LaidMore
import Derived.LaidHandle
namespace Go.Proofs.YteoijmejhdocdaaGreatDoor.Mx
open Go.ChangeShapes Go.WideShapes Go.ChangeAt Go.RowKit
set_option linter.unusedVariables false
open Go.Lib (hid)
open Go.Proofs.Tryz
set_option maxRecDepth 20000
set_option maxHeartbeats 64000000
open Value renaming int → O, slice → ψ, bool → φ, agg → σ
open IntKind renaming i64 → U
open Ending renaming returned → τ
theorem RB (e0:Addr) (A:Option Addr) (l:List Int) (cap:Nat) (w:World) (hn:l.length <= maxLen) (hA:Ints w .u8 w.1.size A l) (h8:∀ i,i < l.length -> 0 <= l.getD i 0 /\ l.getD i 0 <= 255) (hE:Bad1 w e0):
    Calls prog 4 #[ψ A l.length cap] w fun e w'=>e = τ (φ true) /\ Below w.1.size w w':=by
 by_cases hs:4096 < l.length
 ·go_enter func4,ntmps4
  go_wp2_with fail
  refine (Si A l.length cap w hs).mono ?_;rintro e w' ⟨rfl,rfl⟩
  go_wp2_with fail
  go_ret
  exact ⟨rfl,Below.refl _ _⟩
 ·have hs':l.length <= 4096:=by omega
  have HN:=hid hs'
  have HM:=hid hn
  have H8:=hid h8
  have HE:=hid hE
  have HA:=hid hA
  have F0:=hid (show FV1 w e0 A l [] [] w from ⟨Kept.refl w,hE,hA,fun r hr=>by cases hr⟩)
  clear hs hn hA hE h8
  go_enter func4,ntmps4
  go_wp2_with fail
  refine (Sx A l.length cap w hs').mono ?_;rintro e w' ⟨rfl,rfl⟩
  clear hs'
  go_wp2_with fail
  refine (II A l cap w HN.out F0.out.2.2.1).mono ?_;rintro e w1 ⟨x,cs,at0,rfl,ia,hr,hsh,h64,hb⟩
  obtain ⟨A1,c1,B1,d1,C1,f1,E1,s1,rfl⟩:=hr.lits
  have F1:=hid (F0.out.step hb hr 31 #[O U x.key,ψ A1 x.counts.length c1,ψ B1 x.trusts.length d1,ψ C1 x.cells.length f1,ψ E1 x.slots.length s1,O U x.count])
  obtain ⟨y,k,⟨hys,hyi⟩,WI,WS⟩:=Qv e0 x at0 hsh h64
  have WI:=hid WI
  have WS:=hid WS
  have HY:=hid (And.intro hys hyi)
  clear hys hyi hsh h64 ia
  clear hr hb F0
  go_upto_region 4 with fail
  generalize hv1:World.alloc w1 _ = v1 at F1 |-
  clear hv1
  obtain ⟨kc,kf,-⟩:=F1.out.1.rd
  go_wp2_with fail
  refine (WI.out _ _ (F1.out.nth 0 rfl) F1.out.2.1).mono ?_;rintro e w2 ⟨A2,c2,B2,d2,C2,f2,E2,s2,rfl,hr,hb⟩
  clear kc kf
  have F2:=hid (F1.out.step hb hr 31 #[O U y.key,ψ A2 y.counts.length c2,ψ B2 y.trusts.length d2,ψ C2 y.cells.length f2,ψ E2 y.slots.length s2,O U y.count])
  clear hr hb F1
  go_upto_region 5 with fail
  generalize hv2:World.alloc w2 _ = v2 at F2 |-
  clear hv2
  obtain ⟨-,-,kc,kf,-⟩:=F2.out.1.rd
  go_wp2_with fail
  refine (WS.out _ _ (F2.out.nth 1 rfl)).mono ?_;rintro e w3 ⟨A3,c3,B3,d3,C3,f3,E3,s3,rfl,hr,hb⟩
  clear kc kf
  have F3:=hid (F2.out.step hb hr 31 #[O U y.key,ψ A3 y.counts.length c3,ψ B3 y.trusts.length d3,ψ C3 y.cells.length f3,ψ E3 y.slots.length s3,O U y.count])
  clear WI WS
  clear hr hb F2
  go_upto_region 6 with fail
  generalize hv3:World.alloc w3 _ = v3 at F3 |-
  clear hv3
  go_wp2_with fail
  refine (Jo A l cap _ HN.out F3.out.2.2.1).mono ?_;rintro e w4 ⟨u,cs,rfl,hr,hq,hb⟩
  obtain ⟨A4,c4,B4,d4,C4,f4,E4,s4,rfl⟩:=hr.lits
  have F4:=hid (F3.out.step hb hr 31 #[O U u.key,ψ A4 u.counts.length c4,ψ B4 u.trusts.length d4,ψ C4 u.cells.length f4,ψ E4 u.slots.length s4,O U u.count])
  have hq2:u.Short /\ u.Int64:=by
   rcases hq with h | ⟨y9,rfl,h⟩
   ·exact h
   ·exact ⟨h.toG.1,h.toG.2.1⟩
  obtain ⟨ya,ka,⟨hys,hyi⟩,RI,RS⟩:=Qx e0 u hq2.1 hq2.2
  have RI:=hid RI
  have RS:=hid RS
  have HYA:=hid (And.intro hys hyi)
  clear hys hyi hq hq2
  clear hr hb F3
  go_upto_region 7 with fail
  generalize hv4:World.alloc w4 _ = v4 at F4 |-
  clear hv4
  obtain ⟨kc,kf,-⟩:=F4.out.1.rd
  go_wp2_with fail
  refine (RI.out _ _ (F4.out.nth 0 rfl) F4.out.2.1).mono ?_;rintro e w5 ⟨A5,c5,B5,d5,C5,f5,E5,s5,rfl,hr,hb⟩
  clear kc kf
  have F5:=hid (F4.out.step hb hr 31 #[O U ya.key,ψ A5 ya.counts.length c5,ψ B5 ya.trusts.length d5,ψ C5 ya.cells.length f5,ψ E5 ya.slots.length s5,O U ya.count])
  clear hr hb F4
  go_upto_region 8 with fail
  generalize hv5:World.alloc w5 _ = v5 at F5 |-
  clear hv5
  obtain ⟨-,-,kc,kf,-⟩:=F5.out.1.rd
  go_wp2_with fail
  refine (RS.out _ _ (F5.out.nth 1 rfl)).mono ?_;rintro e w6 ⟨A6,c6,B6,d6,C6,f6,E6,s6,rfl,hr,hb⟩
  clear kc kf
  have F6:=hid (F5.out.step hb hr 31 #[O U ya.key,ψ A6 ya.counts.length c6,ψ B6 ya.trusts.length d6,ψ C6 ya.cells.length f6,ψ E6 ya.slots.length s6,O U ya.count])
  clear RI RS
  clear hr hb F5
  go_upto_region 9 with fail
  generalize hv6:World.alloc w6 _ = v6 at F6 |-
  clear hv6
  go_wp2_with fail
  refine (Jw A l cap _ HN.out F6.out.2.2.1).mono ?_;rintro e w7 ⟨gg,cs,rr,rfl,ia,hr,hsh,h64,hb⟩
  obtain ⟨A7,c7,B7,d7,C7,f7,E7,s7,rfl⟩:=hr.lits
  have F7:=hid (F6.out.step hb hr 31 #[O U gg.key,ψ A7 gg.counts.length c7,ψ B7 gg.trusts.length d7,ψ C7 gg.cells.length f7,ψ E7 gg.slots.length s7,O U gg.count])
  obtain ⟨ye,ke,⟨hys,hyi⟩,SI,SS⟩:=Pp e0 gg rr hsh h64
  have SI:=hid SI
  have SS:=hid SS
  have HYE:=hid (And.intro hys hyi)
  clear hys hyi hsh h64 ia
  clear hr hb F6
  go_upto_region 10 with fail
  generalize hv7:World.alloc w7 _ = v7 at F7 |-
  clear hv7
  obtain ⟨kc,kf,-⟩:=F7.out.1.rd
  go_wp2_with fail
  refine (SI.out _ _ (F7.out.nth 0 rfl) F7.out.2.1).mono ?_;rintro e w8 ⟨A8,c8,B8,d8,C8,f8,E8,s8,rfl,hr,hb⟩
  clear kc kf
  have F8:=hid (F7.out.step hb hr 31 #[O U ye.key,ψ A8 ye.counts.length c8,ψ B8 ye.trusts.length d8,ψ C8 ye.cells.length f8,ψ E8 ye.slots.length s8,O U ye.count])
  clear hr hb F7
  go_upto_region 11 with fail
  generalize hv8:World.alloc w8 _ = v8 at F8 |-
  clear hv8
  obtain ⟨-,-,kc,kf,-⟩:=F8.out.1.rd
  go_wp2_with fail
  refine (SS.out _ _ (F8.out.nth 1 rfl)).mono ?_;rintro e w9 ⟨A9,c9,B9,d9,C9,f9,E9,s9,rfl,hr,hb⟩
  clear kc kf
  have F9:=hid (F8.out.step hb hr 31 #[O U ye.key,ψ A9 ye.counts.length c9,ψ B9 ye.trusts.length d9,ψ C9 ye.cells.length f9,ψ E9 ye.slots.length s9,O U ye.count])
  clear SI SS
  clear hr hb F8
  go_upto_region 12 with fail
  generalize hv9:World.alloc w9 _ = v9 at F9 |-
  clear hv9
  have z1:(k != k) = false:=by simp
  have z2:(ka != ka) = false:=by simp
  have z3:(ke != ke) = false:=by simp
  obtain ⟨X0,Y0,X1,Y1,X2,Y2,X3,Y3,X4,Y4,X5,Y5,X6,Y6,X7,Y7,X8,Y8,-⟩:=F9.out.1.rd
  go_wp2_with fail
  refine (Ff y _ _ _ HY.out.1 (F9.out.nth 7 rfl) (F9.out.nth 6 rfl)).mono ?_;rintro e x0 ⟨rfl,hb⟩
  have P0:=hid (F9.out.grow hb)
  clear hb X0 Y0 X1 Y1 X2 Y2 X3 Y3 X4 Y4 X5 Y5 X6 Y6 X7 Y7 X8 Y8 F9
  obtain ⟨X0,Y0,X1,Y1,X2,Y2,X3,Y3,X4,Y4,X5,Y5,X6,Y6,X7,Y7,X8,Y8,-⟩:=P0.out.1.rd
  go_wp2_with fail
  refine (Ff ya _ _ _ HYA.out.1 (P0.out.nth 4 rfl) (P0.out.nth 3 rfl)).mono ?_;rintro e x1 ⟨rfl,hb⟩
  have P1:=hid (P0.out.grow hb)
  clear hb X0 Y0 X1 Y1 X2 Y2 X3 Y3 X4 Y4 X5 Y5 X6 Y6 X7 Y7 X8 Y8 P0
  obtain ⟨X0,Y0,X1,Y1,X2,Y2,X3,Y3,X4,Y4,X5,Y5,X6,Y6,X7,Y7,X8,Y8,-⟩:=P1.out.1.rd
  go_wp2_with fail
  refine (Ff ye _ _ _ HYE.out.1 (P1.out.nth 1 rfl) (P1.out.nth 0 rfl)).mono ?_;rintro e x2 ⟨rfl,hb⟩
  have P2:=hid (P1.out.grow hb)
  clear hb X0 Y0 X1 Y1 X2 Y2 X3 Y3 X4 Y4 X5 Y5 X6 Y6 X7 Y7 X8 Y8 P1
  have PB:=hid (show Below w.1.size w x2 /\ Ints x2 .u8 x2.1.size A l from ⟨P2.out.1.1,P2.out.2.2.1⟩)
  clear P2 z1 z2 z3 HY HYA HYE
  go_wp2_with fail
  refine (PU A l cap 11 _ HM.out PB.out.2).mono ?_;rintro e u0 ⟨rfl,bd,hdice⟩
  have hgw:w.1.size <= x2.1.size:=PB.out.1.size
  have B0:=hid (PB.out.1.trans (bd.mono hgw))
  clear bd PB
  generalize x2.1.size = g at hdice hgw |-
  have hg0:g < u0.1.size:=hdice.lt
  have HD0:=hid hdice
  clear hdice
  go_wp2_with fail
  refine (NJ g A l cap _ HM.out HD0.out H8.out).mono ?_;rintro e u1 ⟨key,vv,zs,rfl,hpg,hrow,hd,hg⟩
  obtain ⟨P,pc,rfl,-,hcP⟩:=IRow.form hrow.1
  have hbp:=Ap u1 (.cells #[O U key,ψ P zs.length pc] 26)
  have W5:=hid (show FW w g A l cap u1.1.size u0.1.size key P zs pc (u1.alloc (.cells #[O U key,ψ P zs.length pc] 26)) from
   ⟨(bgb B0.out hg B0.out.size hgw).trans (hbp.mono (Nat.le_trans B0.out.size hg.size)),EF hd hbp,Aa.new u1 _ _,⟨hrow.alloc _,fun k e=>(World.ownsRow.lt hrow.1 k e).2⟩,hgw,hg0,Nat.lt_of_lt_of_le hg0 hg.size⟩)
  have HP:=hid hpg
  have HC:=hid hcP
  clear hpg hcP hrow hd hg hbp B0 HD0
  go_upto_region 16 with fail
  generalize hv5:World.alloc u1 _ = v5 at W5 |-
  clear hv5
  have hpz:zs.length <= 4:=HP.out.2.1.2
  generalize hub:u1.1.size = bp at W5 |-
  generalize hua:u0.1.size = base at W5 |-
  clear hub hua hg0 hgw
  have pc5:=W5.out.2.2.1.cell
  go_wp2_with fail
  refine (JF key P zs pc _ HC.out (by unfold maxLen;omega) W5.out.2.2.2.1.1.intsF).mono ?_
  rw [show Km key zs = some (Cl key zs) from if_pos HP.out]
  rintro e u2 ⟨cs,rfl,hv,bv⟩
  have hI0:=Hp HP.out
  obtain ⟨hp0,hc0⟩:=Ma hI0
  have hz0:(Cl key zs).counts = zs:=rfl
  have hv2:VolO u2 v5.1.size (Cl key zs) (σ cs):=hv
  clear hv
  generalize Cl key zs = x0 at hI0 hp0 hc0 hz0 hv2
  obtain ⟨A2,c2,B2,d2,C2,e2,g2,rfl⟩:=VolO.litsD hv2
  have hbp5:=W5.out.2.2.1.lt
  have hbo:=Nat.lt_of_lt_of_le hbp5 bv.size
  have hbx:=Ap u2 (.cells #[O U x0.key,ψ A2 x0.counts.length c2,ψ B2 x0.trusts.length d2,ψ C2 x0.cells.length e2,ψ (some ⟨g2,0,none⟩) 2 2,O U x0.count] 31)
  have W6:=hid ((W5.out.below bv).below hbx)
  have V6:=hid (And.intro (Aa.new u2 31 #[O U x0.key,ψ A2 x0.counts.length c2,ψ B2 x0.trusts.length d2,ψ C2 x0.cells.length e2,ψ (some ⟨g2,0,none⟩) 2 2,O U x0.count]) ((hv2.below hbx).mono (show bp + 1 <= v5.1.size from hbp5)))
  have I0:=hid (show x0.Inv /\ x0.Par /\ x0.count <= 1 + ((0:Nat):Int) /\ x0.counts = zs from ⟨hI0,hp0,by rw [hc0];decide,hz0⟩)
  clear hI0 hp0 hc0 hz0 hv2 bv hbx pc5 W5 HC
  go_upto_region 17 with fail
  generalize hv6:World.alloc u2 _ = v6 at W6 V6 |-
  clear hv6
  have hbo6:u2.1.size < v6.1.size:=V6.out.1.lt
  generalize u2.1.size = bo at V6 hbo hbo6 |-
  have pc6:=W6.out.2.2.1.cell
  go_wp2_with fail
  refine (Ip g A l cap _ base key P zs pc 20 (by omega) (by omega) HM.out W6.out.2.1 H8.out HP.out W6.out.2.2.2.1.1 W6.out.2.2.2.2.2.1).mono ?_;rintro e u3 ⟨vL,L,rfl,hrowL,hfair,hlen,hd,hg⟩
  obtain ⟨LA,lc,rfl,-,hlc⟩:=hrowL.reads In
  have hgb:=W6.out.2.2.2.2.2.2
  have S0:=hid (show FL (FW w g A l cap bp base key P zs pc) (fun _=>True) bp bo v6.1.size x0 #[O U x0.key,ψ A2 x0.counts.length c2,ψ B2 x0.trusts.length d2,ψ C2 x0.cells.length e2,ψ (some ⟨g2,0,none⟩) 2 2,O U x0.count] (ψ LA L.length lc) L u3 from
   ⟨W6.out.throw hd hg,trivial,V6.out.1.grown hg (by intro e;injection e;omega),V6.out.2.out hg (by omega),hrowL,hbo,hbo6⟩)
  have HF:=hid (fun u u' (h:FW w g A l cap bp base key P zs pc u) hb=>FW.below (u':=u') h hb)
  have HS:=hid (fun u u' r (h:FW w g A l cap bp base key P zs pc u) (hr:bp < r) hg=>FW.step (u':=u') h hg hr)
  have HX1:=hid (show ∀ u u':World,True -> u.grownBy u' (some bo) -> True from fun _ _ _ _=>trivial)
  have HL:=hid hfair
  clear hrowL hfair hd hg W6 V6 pc6
  generalize v6.1.size = br at S0 hbo6
  go_wp2_with fail
  go_loopw [24] (fun i u=>∃ (j:Nat) (x:VolN) (cs:Array Value),i = O U j /\ j <= L.length /\ (x.Inv /\ x.Par /\ x.count <= 1 + (j:Int) /\ x.counts = zs) /\ FL (FW w g A l cap bp base key P zs pc) (fun _=>True) bp bo br x cs (ψ LA L.length lc) L u) (fun i _=>L.length - (intOf i).toNat)
  case atStart=>exact ⟨0,_,_,rfl,Nat.zero_le _,I0.out,S0.out⟩
  case round=>
   clear S0
   obtain ⟨j,x,cs,rfl,hj,hinv,hl1⟩:=hrel
   by_cases hlt:j < L.length
   ·have hfo:=HL.out j hlt
    obtain ⟨LA2,lc2,eL,hsl,-⟩:=hl1.2.2.2.2.1.reads In
    injection eL with eL eL2 eL3
    subst eL
    obtain ⟨bl,off,rfl,hbl,hq⟩:=hsl j hlt
    have hlt':(j:Int) < L.length:=by omega
    have hj0:(0:Int) <= j:=by omega
    generalize L.getD j default = o at hfo hq
    clear hsl eL2 eL3
    obtain ⟨i1,i2,i3,i4⟩:=hinv
    have hlenL:=hlen
    have DO:=hid (fun (v:Value) (u:World) hr=>OP x v o u i1 (by rw [i4];exact hfo) hr)
    have n1:=Jt i1 o.kind o.a o.b o.c
    have n2:=Rc i1 (by omega) i2 hfo.1 o.a o.b o.c
    have n3:=(NG x hfo.1 o.a o.b o.c).trans i4
    generalize FF x o.kind o.a o.b o.c = Y at DO n1 n2 n3
    obtain ⟨y,q,n⟩:=Y
    have NI:=hid (show y.Inv /\ y.Par /\ y.count <= 1 + ((j + 1:Nat):Int) /\ y.counts = zs from ⟨n1,n2.1,by have:=n2.2;simp only [] at this;omega,n3⟩)
    clear i1 i2 i3 i4 n1 n2 n3 hfo I0
    go_upto_region 21 with fail
    have hS4:=hl1.below HF.out HX1.out (show Below wr.1.size wr wr.drew from (Below.refl _ _).drew)
    obtain ⟨A7,c7,B7,d7,C7,e7,g7,rfl⟩:=VolO.litsD hl1.2.2.2.1
    have HD:=hid hS4
    have hbz:bo < wr.drew.1.size:=hS4.2.2.1.lt
    have pc:=hS4.2.2.1.cell
    have q0:wr.drew.cell? ⟨bl,off + j * 4,none⟩ = some (O U o.kind):=hq 0 (by omega)
    have q1:wr.drew.cell? ⟨bl,off + j * 4 + 1,none⟩ = some (O U o.a):=hq 1 (by omega)
    have q2:wr.drew.cell? ⟨bl,off + j * 4 + 2,none⟩ = some (O U o.b):=hq 2 (by omega)
    have q3:wr.drew.cell? ⟨bl,off + j * 4 + 3,none⟩ = some (O U o.c):=hq 3 (by omega)
    clear hS4 hl1 hq
    go_region_with (go_at_call 38;refine (DO.out _ _ HD.out.rd).mono ?_;rintro e wx ⟨cs',rfl,hv',hb'⟩;obtain ⟨A8,c8,B8,d8,C8,e8,g8,rfl⟩:=VolO.litsD hv';have H5:=hid (HD.out.below HF.out HX1.out hb');have HV8:=hid hv';have mc:=H5.out.2.2.1.cell;have mf:=H5.out.2.2.1.frozen;clear hv' hb')
    all_goals
     go_upto_region 20 with fail
     have p1:=Ed (x0:=O U y.key) (x1:=ψ A8 y.counts.length c8) (x2:=ψ B8 y.trusts.length d8) (x3:=ψ C8 y.cells.length e8) (x4:=ψ (some ⟨g8,0,none⟩) 2 2) (x5:=O U y.count) H5.out.2.2.1
     have hn:=H5.out.put HS.out HX1.out HV8.out hbz p1.2 p1.1
     generalize World.setCell _ _ _ = w7 at hn |-
     have HN7:=hid hn
     clear hn p1 H5 HV8 HD mc mf pc q0 q1 q2 q3
     go_wp2_with fail
     go_roundw
     case rel=>exact ⟨j + 1,_,_,by go_num,by omega,NI.out,HN7.out⟩
     case measure=>simp [intOf];omega
   ·obtain rfl:j = L.length:=by omega
    obtain ⟨i1,i2,i3,i4⟩:=hinv
    obtain ⟨A7,c7,B7,d7,C7,e7,g7,rfl⟩:=VolO.litsD hl1.2.2.2.1
    have SG:=Gz x.toG _ 3 wr i1.toG.1 i1.toG.2.1 hl1.rd
    rw [show Do x.toG 3 = (some (Ah x 3).1,(Ah x 3).2) from if_pos i1.toG.2.2] at SG
    obtain ⟨t1,t2,t3,t4,t5,t6⟩:=GE i1 (by omega) i2
    have t7:=Du i1 3
    have t8:=(EH x 3).trans i4
    rw [<- t5,<- t6] at t4
    have t9:(Ah x 3).1.count <= 40:=by omega
    generalize Ah x 3 = Y at SG t1 t2 t3 t4 t7 t8 t9
    clear t3 t5 t6 i1 i2 i3 i4 I0
    obtain ⟨yo,qo⟩:=Y
    simp only [] at t1 t2 t4 t7 t8 t9
    subst t1
    have YO:=hid (And.intro t7 (And.intro t2 (And.intro t4 (And.intro t8 t9))))
    clear t2 t4 t7 t8 t9
    have HW:=hid hl1
    have SGH:=hid SG
    have pc:=hl1.2.2.1.cell
    have pf:=hl1.2.2.1.frozen
    have hbw:=hl1.2.2.1.lt
    have hbw2:=hl1.1.2.2.1.lt
    clear hl1 SG
    go_wp2_with fail
    refine SGH.out.mono ?_;rintro e u4 ⟨cs4,rfl,hv4',hb4⟩
    have hv4:VolO u4 wr.1.size yo (σ cs4):=hv4'
    clear hv4'
    obtain ⟨A8,c8,B8,d8,C8,e8,g8,rfl⟩:=VolO.litsD hv4
    have hc4:=HW.out.2.2.1.below hb4 hbw
    have HV4:=hid hv4
    have W4:=hid (HW.out.1.below hb4)
    have hc4c:=hc4.cell
    have hc4f:=hc4.frozen
    have HC4:=hid hc4
    clear pc pf hv4 hb4 SGH HW hc4
    go_upto_region 23 with fail
    have p1:=Ed (x0:=O U yo.key) (x1:=ψ A8 yo.counts.length c8) (x2:=ψ B8 yo.trusts.length d8) (x3:=ψ C8 yo.cells.length e8) (x4:=ψ (some ⟨g8,0,none⟩) 2 2) (x5:=O U yo.count) HC4.out
    have V9:=hid (And.intro p1.1 (HV4.out.out p1.2 hbw))
    have W9:=hid (W4.out.step p1.2 hbo)
    clear p1 W4 HV4 HC4 hc4c hc4f
    generalize World.setCell _ _ _ = u5 at V9 W9 |-
    have pc:=V9.out.1.cell
    have hb5:bo < u5.1.size:=V9.out.1.lt
    have hbx:=Ap u5 (.cells #[O U yo.key,ψ A8 yo.counts.length c8,ψ B8 yo.trusts.length d8,ψ C8 yo.cells.length e8,ψ (some ⟨g8,0,none⟩) 2 2,O U yo.count] 31)
    have W10:=hid (W9.out.below hbx)
    have V10:=hid (show Aa (u5.alloc (.cells #[O U yo.key,ψ A8 yo.counts.length c8,ψ B8 yo.trusts.length d8,ψ C8 yo.cells.length e8,ψ (some ⟨g8,0,none⟩) 2 2,O U yo.count] 31)) u5.1.size 31 #[O U yo.key,ψ A8 yo.counts.length c8,ψ B8 yo.trusts.length d8,ψ C8 yo.cells.length e8,ψ (some ⟨g8,0,none⟩) 2 2,O U yo.count] /\ Aa (u5.alloc (.cells #[O U yo.key,ψ A8 yo.counts.length c8,ψ B8 yo.trusts.length d8,ψ C8 yo.cells.length e8,ψ (some ⟨g8,0,none⟩) 2 2,O U yo.count] 31)) bo 31 #[O U yo.key,ψ A8 yo.counts.length c8,ψ B8 yo.trusts.length d8,ψ C8 yo.cells.length e8,ψ (some ⟨g8,0,none⟩) 2 2,O U yo.count] /\ VolO (u5.alloc (.cells #[O U yo.key,ψ A8 yo.counts.length c8,ψ B8 yo.trusts.length d8,ψ C8 yo.cells.length e8,ψ (some ⟨g8,0,none⟩) 2 2,O U yo.count] 31)) (bp + 1) yo (σ #[O U yo.key,ψ A8 yo.counts.length c8,ψ B8 yo.trusts.length d8,ψ C8 yo.cells.length e8,ψ (some ⟨g8,0,none⟩) 2 2,O U yo.count]) /\ Mid 0 wr.1.size u5 (u5.alloc (.cells #[O U yo.key,ψ A8 yo.counts.length c8,ψ B8 yo.trusts.length d8,ψ C8 yo.cells.length e8,ψ (some ⟨g8,0,none⟩) 2 2,O U yo.count] 31)) from
     ⟨Aa.new u5 _ _,V9.out.1.below hbx hb5,(V9.out.2.below hbx).mono hbw2,Mid.of_below hbx⟩)
    go_upto_region 24 with fail
    clear pc hbx W9
    generalize hv6:World.alloc u5 _ = v7 at W10 V10 |-
    clear hv6
    have hbn:u5.1.size < v7.1.size:=V10.out.1.lt
    have hbn2:bp < u5.1.size:=by omega
    have pc6:=W10.out.2.2.1.cell
    clear HL hj hlt hlc
    go_wp2_with fail
    refine (Ip g A l cap _ base key P zs pc 10 (by omega) (by omega) HM.out W10.out.2.1 H8.out HP.out W10.out.2.2.2.1.1 W10.out.2.2.2.2.2.1).mono ?_;rintro e u6 ⟨vM,M,rfl,hrowM,hfair,hlen2,hd,hg⟩
    obtain ⟨MA,mc_,rfl,-,-⟩:=hrowM.reads In
    have hgwr:g < wr.1.size:=by have:=W10.out.2.2.2.2.2.2;omega
    have S1:=hid (show FL (FW w g A l cap bp base key P zs pc) (fun u=>Aa u bo 31 #[O U yo.key,ψ A8 yo.counts.length c8,ψ B8 yo.trusts.length d8,ψ C8 yo.cells.length e8,ψ (some ⟨g8,0,none⟩) 2 2,O U yo.count] /\ Mid 0 wr.1.size u5 u) bp u5.1.size v7.1.size yo #[O U yo.key,ψ A8 yo.counts.length c8,ψ B8 yo.trusts.length d8,ψ C8 yo.cells.length e8,ψ (some ⟨g8,0,none⟩) 2 2,O U yo.count] (ψ MA M.length mc_) M u6 from
     ⟨W10.out.throw hd hg,⟨V10.out.2.1.grown hg (by intro e;injection e;omega),V10.out.2.2.2.trans (Mid.of hg (fun k e=>by injection e;omega))⟩,V10.out.1.grown hg (by intro e;injection e;omega),V10.out.2.2.1.out hg (by have:=W10.out.2.2.2.2.2.2;omega),hrowM,hbn2,hbn⟩)
    have HX2:=hid (show ∀ u u':World,(Aa u bo 31 #[O U yo.key,ψ A8 yo.counts.length c8,ψ B8 yo.trusts.length d8,ψ C8 yo.cells.length e8,ψ (some ⟨g8,0,none⟩) 2 2,O U yo.count] /\ Mid 0 wr.1.size u5 u) -> u.grownBy u' (some u5.1.size) -> (Aa u' bo 31 #[O U yo.key,ψ A8 yo.counts.length c8,ψ B8 yo.trusts.length d8,ψ C8 yo.cells.length e8,ψ (some ⟨g8,0,none⟩) 2 2,O U yo.count] /\ Mid 0 wr.1.size u5 u') from fun u u' h hg=>⟨h.1.grown hg (by intro e;injection e;omega),h.2.newer hg (lr _)⟩)
    have HL:=hid hfair
    have V9':=hid V9.out.2
    clear hrowM hfair hd hg W10 V10 pc6 V9 HX1
    generalize v7.1.size = bs at S1 hbn
    generalize hbne:u5.1.size = bn at S1 HX2 hbn hbn2 |-
    generalize hwr:wr.1.size = ww at S1 HX2 V9' hgwr hbw
    clear hbw2 hwr hlen
    go_wp2_with fail
    go_loopw [26] (fun i u=>∃ (j:Nat) (x:VolN) (cs:Array Value),i = O U j /\ j <= M.length /\ (yo.Same x /\ x.Inv) /\ FL (FW w g A l cap bp base key P zs pc) (fun u=>Aa u bo 31 #[O U yo.key,ψ A8 yo.counts.length c8,ψ B8 yo.trusts.length d8,ψ C8 yo.cells.length e8,ψ (some ⟨g8,0,none⟩) 2 2,O U yo.count] /\ Mid 0 ww u5 u) bp bn bs x cs (ψ MA M.length mc_) M u) (fun i _=>M.length - (intOf i).toNat)
    case atStart=>exact ⟨0,_,_,rfl,Nat.zero_le _,⟨VolN.Same.refl yo,YO.out.1⟩,S1.out⟩
    case round=>
     clear S1
     obtain ⟨j,x,cs,rfl,hj,hinv,hl1⟩:=hrel
     by_cases hlt:j < M.length
     ·have hfo:=HL.out j hlt
      obtain ⟨LA2,lc2,eL,hsl,-⟩:=hl1.2.2.2.2.1.reads In
      injection eL with eL eL2 eL3
      subst eL
      obtain ⟨bl,off,rfl,hbl,hq⟩:=hsl j hlt
      have hlt':(j:Int) < M.length:=by omega
      have hj0:(0:Int) <= j:=by omega
      generalize M.getD j default = o at hfo hq
      clear hsl eL2 eL3
      obtain ⟨i1,i2⟩:=hinv
      have i4:x.counts = zs:=i1.2.1.trans YO.out.2.2.2.1
      have DO:=hid (fun (v:Value) (u:World) hr=>OP x v o u i2 (by rw [i4];exact hfo) hr)
      by_cases h56:o.kind = 5 \/ o.kind = 6
      ·have HH:=hid (And.intro i1 (And.intro i2 hl1))
       have q0:wr.cell? ⟨bl,off + j * 4,none⟩ = some (O U o.kind):=hq 0 (by omega)
       clear hq hl1 i1 i2 i4 DO
       rcases h56 with h5 | h5
       ·rw [h5] at q0
        go_wp2_with fail
        go_roundw
        case rel=>exact ⟨j + 1,_,_,by go_num,by omega,⟨HH.out.1,HH.out.2.1⟩,HH.out.2.2⟩
        case measure=>simp [intOf];omega
       ·rw [h5] at q0
        go_wp2_with fail
        go_roundw
        case rel=>exact ⟨j + 1,_,_,by go_num,by omega,⟨HH.out.1,HH.out.2.1⟩,HH.out.2.2⟩
        case measure=>simp [intOf];omega
      ·have n5:(o.kind != 5) = true:=by simp;omega
       have n6:(o.kind != 6) = true:=by simp;omega
       have n5':¬ o.kind = 5:=by omega
       have n6':¬ o.kind = 6:=by omega
       have r0:wr.cell? ⟨bl,off + j * 4,none⟩ = some (O U o.kind):=hq 0 (by omega)
       have n1:=Jt i2 o.kind o.a o.b o.c
       have n2:=i1.trans (OZ x (kind:=o.kind) (by have:=hfo.1;omega) o.a o.b o.c)
       generalize FF x o.kind o.a o.b o.c = Y at DO n1 n2
       obtain ⟨y,q,n⟩:=Y
       have NI:=hid (show yo.Same y /\ y.Inv from ⟨n2,n1⟩)
       have HK:=hid hq
       have HJ:=hid hl1
       clear i1 i2 i4 n1 n2 hfo hq hl1
       go_upto_region 29 with fail
       have hq:=HK.out
       have hl1:=HJ.out
       clear r0 HK HJ
       go_upto_region 29 with fail
       have hS4:=hl1.below HF.out HX2.out (show Below wr.1.size wr wr.drew from (Below.refl _ _).drew)
       obtain ⟨A7,c7,B7,d7,C7,e7,g7,rfl⟩:=VolO.litsD hl1.2.2.2.1
       have HD:=hid hS4
       have hbz:bn < wr.drew.1.size:=hS4.2.2.1.lt
       have pc:=hS4.2.2.1.cell
       have q0:wr.drew.cell? ⟨bl,off + j * 4,none⟩ = some (O U o.kind):=hq 0 (by omega)
       have q1:wr.drew.cell? ⟨bl,off + j * 4 + 1,none⟩ = some (O U o.a):=hq 1 (by omega)
       have q2:wr.drew.cell? ⟨bl,off + j * 4 + 2,none⟩ = some (O U o.b):=hq 2 (by omega)
       have q3:wr.drew.cell? ⟨bl,off + j * 4 + 3,none⟩ = some (O U o.c):=hq 3 (by omega)
       clear hS4 hl1 hq
       go_region_with (go_at_call 38;refine (DO.out _ _ HD.out.rd).mono ?_;rintro e wx ⟨cs',rfl,hv',hb'⟩;obtain ⟨A8,c8,B8,d8,C8,e8,g8,rfl⟩:=VolO.litsD hv';have H5:=hid (HD.out.below HF.out HX2.out hb');have HV8:=hid hv';have mc:=H5.out.2.2.1.cell;have mf:=H5.out.2.2.1.frozen;clear hv' hb')
       all_goals
        go_upto_region 27 with fail
        have p1:=Ed (x0:=O U y.key) (x1:=ψ A8 y.counts.length c8) (x2:=ψ B8 y.trusts.length d8) (x3:=ψ C8 y.cells.length e8) (x4:=ψ (some ⟨g8,0,none⟩) 2 2) (x5:=O U y.count) H5.out.2.2.1
        have hn:=H5.out.put HS.out HX2.out HV8.out hbz p1.2 p1.1
        generalize World.setCell _ _ _ = w7 at hn |-
        have HN7:=hid hn
        clear hn p1 H5 HV8 HD mc mf pc q0 q1 q2 q3
        go_wp2_with fail
        go_roundw
        case rel=>exact ⟨j + 1,_,_,by go_num,by omega,NI.out,HN7.out⟩
        case measure=>simp [intOf];omega
     ·obtain rfl:j = M.length:=by omega
      obtain ⟨i1,i2⟩:=hinv
      obtain ⟨A7,c7,B7,d7,C7,e7,g7,rfl⟩:=VolO.litsD hl1.2.2.2.1
      have hp2:=i1.par YO.out.2.1
      have hs2:=i1.sealed YO.out.2.2.1
      have hcn:x.count < 10000:=by have h1:=i1.2.2.2.2;have h2:=YO.out.2.2.2.2;omega
      have FB:=hid (fun (s:Int) (h0:0 <= s) (h3:s <= 3)=>Pl e0 i2 hcn hp2 hs2 h0 h3)
      have RX:=hl1.rd
      have RY:=(show VolQ wr ww (some yo) (σ #[O U yo.key,ψ A8 yo.counts.length c8,ψ B8 yo.trusts.length d8,ψ C8 yo.cells.length e8,ψ (some ⟨g8,0,none⟩) 2 2,O U yo.count]) from V9'.out.mid hl1.2.1.2 (lr _)).reads
      have hB:=hl1.1.1
      have hwg:=hl1.1.2.2.2.2.1
      have S2:=hid (show FV1 w e0 A l [(bn,31,#[O U x.key,ψ A7 x.counts.length c7,ψ B7 x.trusts.length d7,ψ C7 x.cells.length e7,ψ (some ⟨g7,0,none⟩) 2 2,O U x.count]),(bo,31,#[O U yo.key,ψ A8 yo.counts.length c8,ψ B8 yo.trusts.length d8,ψ C8 yo.cells.length e8,ψ (some ⟨g8,0,none⟩) 2 2,O U yo.count])] [(x.toG,σ #[O U x.key,ψ A7 x.counts.length c7,ψ B7 x.trusts.length d7,ψ C7 x.cells.length e7,ψ (some ⟨g7,0,none⟩) 2 2,O U x.count]),(yo.toG,σ #[O U yo.key,ψ A8 yo.counts.length c8,ψ B8 yo.trusts.length d8,ψ C8 yo.cells.length e8,ψ (some ⟨g8,0,none⟩) 2 2,O U yo.count])] wr from
       ⟨⟨hB,by
        intro y hy
        simp only [List.mem_cons,List.not_mem_nil,or_false] at hy
        rcases hy with rfl | rfl
        ·exact ⟨by simp only [];omega,hl1.2.2.1⟩
        ·exact ⟨by simp only [];omega,hl1.2.1.1⟩⟩,HE.out.below hB,(HA.out.below hB (lr _)).more hB.size,by
        intro r hr
        simp only [List.mem_cons,List.not_mem_nil,or_false] at hr
        rcases hr with rfl | rfl
        ·exact RX
        ·exact RY⟩)
      clear hl1 i1 i2 hp2 hs2 hcn RX RY hB hwg HX2 HF HS V9' HL HP YO
      go_wp2_with fail
      go_loopw [27] (fun i u=>∃ j:Nat,i = O U j /\ j <= 4 /\ FV1 w e0 A l [(bn,31,#[O U x.key,ψ A7 x.counts.length c7,ψ B7 x.trusts.length d7,ψ C7 x.cells.length e7,ψ (some ⟨g7,0,none⟩) 2 2,O U x.count]),(bo,31,#[O U yo.key,ψ A8 yo.counts.length c8,ψ B8 yo.trusts.length d8,ψ C8 yo.cells.length e8,ψ (some ⟨g8,0,none⟩) 2 2,O U yo.count])] [(x.toG,σ #[O U x.key,ψ A7 x.counts.length c7,ψ B7 x.trusts.length d7,ψ C7 x.cells.length e7,ψ (some ⟨g7,0,none⟩) 2 2,O U x.count]),(yo.toG,σ #[O U yo.key,ψ A8 yo.counts.length c8,ψ B8 yo.trusts.length d8,ψ C8 yo.cells.length e8,ψ (some ⟨g8,0,none⟩) 2 2,O U yo.count])] u) (fun i _=>4 - (intOf i).toNat)
      case atStart=>exact ⟨0,rfl,by omega,S2.out⟩
      case round=>
       clear S2
       obtain ⟨j,rfl,hj,hfv⟩:=hrel
       by_cases hlt:j < 4
       ·have hlt':(j:Int) < 4:=by omega
        obtain ⟨z,bk,⟨b1,b2,b3,b4,b5⟩,SV,FA⟩:=FB.out j (by omega) (by omega)
        have HF3:=hid hfv
        have SV:=hid SV
        have FA:=hid FA
        have HB:=hid (And.intro b1 (And.intro b2 b3))
        have HC4:=hid b4
        have HC5:=hid b5
        clear b1 b2 b3 b4 b5 hfv
        obtain ⟨X0,Y0,X1,Y1,-⟩:=HF3.out.1.rd
        go_wp2_with fail
        refine (SV.out _ _ (HF3.out.nth 0 rfl) HF3.out.2.1).mono ?_;rintro e y1 ⟨Az,cz,Bz,dz,Cz,fz,Ez,sz,rfl,hr,hb⟩
        have G1:=hid (HF3.out.step hb hr 31 #[O U z.key,ψ Az z.counts.length cz,ψ Bz z.trusts.length dz,ψ Cz z.cells.length fz,ψ Ez z.slots.length sz,O U z.count])
        clear hr hb X0 Y0 X1 Y1 SV
        go_upto_region 34 with fail
        generalize hq1:World.alloc y1 _ = z1 at G1 |-
        clear hq1
        obtain ⟨X0,Y0,-⟩:=G1.out.1.rd
        go_wp2_with fail
        refine (FA.out _ _ (G1.out.nth 0 rfl) G1.out.2.1).mono ?_;rintro e y2 ⟨Ab,cb,Bb,db,Cb,fb,Eb,sb,rfl,hr,hb⟩
        have G2:=hid (G1.out.step hb hr 31 #[O U bk.key,ψ Ab bk.counts.length cb,ψ Bb bk.trusts.length db,ψ Cb bk.cells.length fb,ψ Eb bk.slots.length sb,O U bk.count])
        clear hr hb X0 Y0 FA
        go_upto_region 35 with fail
        generalize hq2:World.alloc y2 _ = z2 at G2 |-
        clear hq2
        obtain ⟨-,-,-,-,-,-,X0,Y0,-⟩:=G2.out.1.rd
        have hwz:w.1.size <= z2.1.size:=G2.out.1.1.size
        have G3:=hid (G2.out.box 31 #[O U yo.key,ψ A8 yo.counts.length c8,ψ B8 yo.trusts.length d8,ψ C8 yo.cells.length e8,ψ (some ⟨g8,0,none⟩) 2 2,O U yo.count])
        have bz:=Ap z2 (.cells #[O U yo.key,ψ A8 yo.counts.length c8,ψ B8 yo.trusts.length d8,ψ C8 yo.cells.length e8,ψ (some ⟨g8,0,none⟩) 2 2,O U yo.count] 31)
        go_upto_region 36 with fail
        have hnew:=Aa.new z2 31 #[O U yo.key,ψ A8 yo.counts.length c8,ψ B8 yo.trusts.length d8,ψ C8 yo.cells.length e8,ψ (some ⟨g8,0,none⟩) 2 2,O U yo.count]
        generalize hq3:World.alloc z2 _ = z3 at G3 bz hnew |-
        clear hq3 X0 Y0
        by_cases h3:(j:Int) = 3
        have z_1:=trivial;rotate_left;have z_2:=trivial;rotate_left
        all_goals
         first
          | guard_hyp z_1
            have hd3:decide ((j:Int) = 3) = true:=decide_eq_true h3
            obtain ⟨X0,Y0,-,-,-,-,X3,Y3,-⟩:=G3.out.1.rd
            have HNW:=hid hnew
            have BZ:=hid bz
            clear hnew bz
            go_upto_region 38 with fail
            have p1:=Ed (x0:=O U x.key) (x1:=ψ A7 x.counts.length c7) (x2:=ψ B7 x.trusts.length d7) (x3:=ψ C7 x.cells.length e7) (x4:=ψ (some ⟨g7,0,none⟩) 2 2) (x5:=O U x.count) HNW.out
            have bz4:=bgb BZ.out p1.2 BZ.out.size (lr _)
            have G4:=hid (show FV1 w e0 A l [(z2.1.size,31,#[O U x.key,ψ A7 x.counts.length c7,ψ B7 x.trusts.length d7,ψ C7 x.cells.length e7,ψ (some ⟨g7,0,none⟩) 2 2,O U x.count]),(y2.1.size,31,#[O U bk.key,ψ Ab bk.counts.length cb,ψ Bb bk.trusts.length db,ψ Cb bk.cells.length fb,ψ Eb bk.slots.length sb,O U bk.count]),(y1.1.size,31,#[O U z.key,ψ Az z.counts.length cz,ψ Bz z.trusts.length dz,ψ Cz z.cells.length fz,ψ Ez z.slots.length sz,O U z.count]),(bn,31,#[O U x.key,ψ A7 x.counts.length c7,ψ B7 x.trusts.length d7,ψ C7 x.cells.length e7,ψ (some ⟨g7,0,none⟩) 2 2,O U x.count]),(bo,31,#[O U yo.key,ψ A8 yo.counts.length c8,ψ B8 yo.trusts.length d8,ψ C8 yo.cells.length e8,ψ (some ⟨g8,0,none⟩) 2 2,O U yo.count])] [(bk,σ #[O U bk.key,ψ Ab bk.counts.length cb,ψ Bb bk.trusts.length db,ψ Cb bk.cells.length fb,ψ Eb bk.slots.length sb,O U bk.count]),(z,σ #[O U z.key,ψ Az z.counts.length cz,ψ Bz z.trusts.length dz,ψ Cz z.cells.length fz,ψ Ez z.slots.length sz,O U z.count]),(x.toG,σ #[O U x.key,ψ A7 x.counts.length c7,ψ B7 x.trusts.length d7,ψ C7 x.cells.length e7,ψ (some ⟨g7,0,none⟩) 2 2,O U x.count]),(yo.toG,σ #[O U yo.key,ψ A8 yo.counts.length c8,ψ B8 yo.trusts.length d8,ψ C8 yo.cells.length e8,ψ (some ⟨g8,0,none⟩) 2 2,O U yo.count])] _ from
             ⟨(G2.out.grow bz4).1.more hwz p1.1,(G2.out.grow bz4).2⟩)
          | have hd3:decide ((j:Int) = 3) = false:=decide_eq_false h3
         have hcE:=HC4.out
         have htE:=HC5.out
         first
          | guard_hyp z_1
            rw [if_pos h3] at hcE htE
            have HCE:=hid (show bk.cells = x.toG.cells from hcE)
            have HTE:=hid (show bk.trusts = x.toG.trusts from htE)
            clear p1 bz4 hcE htE X0 Y0 X3 Y3 HNW BZ G3
            generalize World.setCell _ _ _ = z4 at G4 |-
          | rw [if_neg h3] at hcE htE
            have HCE:=hid (show bk.cells = yo.toG.cells from hcE)
            have HTE:=hid (show bk.trusts = yo.toG.trusts from htE)
            clear hcE htE hnew bz
            have G4:=G3
            clear G3
         obtain ⟨X0,Y0,X1,Y1,-⟩:=G4.out.1.rd
         go_wp2_with fail
         first
          | guard_hyp z_1
            refine (Jb bk x.toG HCE.out HB.out.1 _ (G4.out.nth 0 rfl) (G4.out.nth 2 rfl)).mono ?_;rintro e q1 ⟨rfl,hb⟩
          | refine (Jb bk yo.toG HCE.out HB.out.1 _ (G4.out.nth 0 rfl) (G4.out.nth 3 rfl)).mono ?_;rintro e q1 ⟨rfl,hb⟩
         have G5:=hid (G4.out.grow hb)
         clear hb G4 X0 Y0 X1 Y1
         obtain ⟨X0,Y0,X1,Y1,-⟩:=G5.out.1.rd
         go_wp2_with fail
         first
          | guard_hyp z_1
            refine (Hs bk x.toG HTE.out HB.out.1 _ (G5.out.nth 0 rfl) (G5.out.nth 2 rfl)).mono ?_;rintro e q2 ⟨rfl,hb⟩
          | refine (Hs bk yo.toG HTE.out HB.out.1 _ (G5.out.nth 0 rfl) (G5.out.nth 3 rfl)).mono ?_;rintro e q2 ⟨rfl,hb⟩
         have G6:=hid (G5.out.grow hb)
         clear hb G5 X0 Y0 X1 Y1
         obtain ⟨X0,Y0,X1,Y1,-⟩:=G6.out.1.rd
         go_wp2_with fail
         refine (JU bk _ _ HB.out.1 HB.out.2.1 (G6.out.nth 0 rfl)).mono ?_;rintro e q3 ⟨rfl,hb⟩
         rw [HB.out.2.2]
         have G7:=hid ((G6.out.grow hb).sub (L':=[(bn,31,#[O U x.key,ψ A7 x.counts.length c7,ψ B7 x.trusts.length d7,ψ C7 x.cells.length e7,ψ (some ⟨g7,0,none⟩) 2 2,O U x.count]),(bo,31,#[O U yo.key,ψ A8 yo.counts.length c8,ψ B8 yo.trusts.length d8,ψ C8 yo.cells.length e8,ψ (some ⟨g8,0,none⟩) 2 2,O U yo.count])]) (R':=[(x.toG,σ #[O U x.key,ψ A7 x.counts.length c7,ψ B7 x.trusts.length d7,ψ C7 x.cells.length e7,ψ (some ⟨g7,0,none⟩) 2 2,O U x.count]),(yo.toG,σ #[O U yo.key,ψ A8 yo.counts.length c8,ψ B8 yo.trusts.length d8,ψ C8 yo.cells.length e8,ψ (some ⟨g8,0,none⟩) 2 2,O U yo.count])]) (by intro y hy;simp only [List.mem_cons,List.not_mem_nil,or_false] at hy |-;rcases hy with rfl | rfl <;> simp) (by intro y hy;simp only [List.mem_cons,List.not_mem_nil,or_false] at hy |-;rcases hy with rfl | rfl <;> simp))
         clear hb G6 X0 Y0 X1 Y1
         go_wp2_with fail
         go_roundw
         case rel=>exact ⟨j + 1,by go_num,by omega,G7.out⟩
         case measure=>simp [intOf];omega
       ·obtain rfl:j = 4:=by omega
        have BW:=hid hfv.1.1
        clear hfv
        go_wp2_with fail
        go_ret
        exact ⟨rfl,BW.out⟩
open Go.ChangeShapes Go.WideShapes Go.RowKit
theorem Sr : "*" ++ "errors.errorString" = "*errors.errorString":=by decide
theorem Sy (u:TypeId) (h:prog.typeName? 3 u = some "*errors.errorString"):u = 280:=
 typeName_ptr_named (nm := "errors.errorString") (by rw [Sr];kernel_rfl) (by kernel_rfl) (by decide) u (by rw [Sr];exact h)
theorem RZ:prog.cellsOf 302 = 1:=by kernel_rfl
theorem Sn:prog.cellsOf 9 = 1:=by kernel_rfl
theorem xG0:prog.globalNamed "loop.example/g00775/impl.errBad" = some 0:=by kernel_rfl
theorem xT0:(prog.globals[0]?).map (·.type) = some 137:=by kernel_rfl
theorem Ng {W:World} {n:String} {g:Nat} {text:List UInt8} {r:List (String × DataW Unit)} {ps:List MemPlace} (hg:prog.globalNamed n = some g) (ht:(prog.globals[g]?).map (·.type) = some 137)
    (h:DataW.LaidVars prog W ((n,.iface "*errors.errorString" (.ptr (.agg [.lit (.string text)]))) :: r) ps)
    (hrows:∀ b off,MemPlace.cell b off ∈ ps -> (∃ c t,W.1[b]? = some (.cells c t (0,0))) /\ ∀ u v,W.cell? ⟨b,off,none⟩ = some (.iface u v) -> Value.okWide prog W .any 0 u v):
    ∃ a q n0,W.cell? ⟨g,0,none⟩ = some (.iface 280 (.pointer (some a))) /\ ps = n0 ++ MemPlace.row a 1 ++ q /\ (∃ c t,W.1[a.block]? = some (.cells c t (0,0))) /\ DataW.LaidVars prog W r q:=by
 obtain ⟨g',t',cs,f,p,q,hg',ht',hv,hd,hr,rfl⟩:=h
 obtain rfl:=Option.some.inj (hg.symm.trans hg')
 obtain rfl:=Option.some.inj (ht.symm.trans ht')
 obtain ⟨l0⟩:=cs
 have ok0:∀ u v,l0 = [.iface u v] -> Value.okWide prog W .any 0 u v:=fun u v e=>by
  subst e
  exact (hrows g 0 (by simp [MemPlace.row])).2 u v (by simpa using World.var?_cell hg' hv 0)
 obtain ⟨a0,s0,rfl,hc0,hs0,hz0,rfl⟩:=errorString_of_trod underlying137 Sy underlying280 underlying302 rfl rfl underlying9 RZ Sn hd ok0
 exact ⟨a0,q,_,by simpa using World.var?_cell hg' hv 0,rfl,(hrows a0.block a0.off (by simp [MemPlace.row])).1,hr⟩

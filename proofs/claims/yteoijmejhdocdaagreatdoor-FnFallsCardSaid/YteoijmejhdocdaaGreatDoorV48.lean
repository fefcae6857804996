import Derived.Test.YteoijmejhdocdaaGreatDoorV47
import Derived.Test.YteoijmejhdocdaaGreatDoorV46
namespace Go.Proofs.YteoijmejhdocdaaGreatDoor.Mx
open Go.ChangeShapes Go.WideShapes Go.ChangeAt Go.RowKit
set_option linter.unusedVariables false
open Go.Lib (hid)
open Go.Proofs.Tryz
set_option maxRecDepth 20000
set_option maxHeartbeats 64000000
open Value renaming int → O, slice → ψ, bool → φ, agg → σ
open IntKind renaming i64 → U
open Ending renaming returned → τ
theorem PG (k:Int) (h1:1 <= k) (h6:k <= 6) (w:World):Calls prog 168 #[O U k] w fun e w'=>(∃ m:Int,e = τ (O U m) /\ (k = 5 /\ m = 0 \/ k ≠ 5 /\ 1 <= m) /\ (k = 2 -> m = 2) /\ m <= 2) /\ Below w.1.size w w':=by
 rcases (show k = 1 \/ k = 2 \/ k = 3 \/ k = 4 \/ k = 5 \/ k = 6 by omega) with rfl | rfl | rfl | rfl | rfl | rfl
 have z_1:=trivial;rotate_left;have z_2:=trivial;rotate_left;have z_3:=trivial;rotate_left;have z_4:=trivial;rotate_left;have z_5:=trivial;rotate_left;have z_6:=trivial;rotate_left
 all_goals
  go_enter func168,ntmps168
  go_wp2_with fail
  go_ret
  first
   | guard_hyp z_2
     exact ⟨⟨2,rfl,.inr ⟨by decide,by decide⟩,fun h=>by omega,by decide⟩,Ap w _⟩
   | guard_hyp z_5
     exact ⟨⟨0,rfl,by simp,fun h=>by omega,by decide⟩,Ap w _⟩
   | exact ⟨⟨1,rfl,.inr ⟨by decide,by decide⟩,fun h=>by omega,by decide⟩,Ap w _⟩
theorem NH {n:Nat} {o:Ord} (h:o.Fair n) (w:World):Calls prog 98 #[σ #[O U o.kind,O U o.a,O U o.b,O U o.c]] w fun e w'=>e = τ (φ true) /\ Below w.1.size w w':=by
 obtain ⟨k,a,b,c⟩:=o
 show Calls prog 98 #[σ #[O U k,O U a,O U b,O U c]] w _
 have k1:1 <= k:=h.1.1
 have k6:k <= 6:=h.1.2
 have a0:0 <= a:=h.2.1.1
 have a1:a <= 24:=h.2.1.2
 have b0:0 <= b:=h.2.2.2.1.1
 have b1:b <= 10006:=h.2.2.2.1.2
 have hb:k ≠ 2 -> b = 0:=h.2.2.2.2.1
 have hc:c = 0:=h.2.2.2.2.2.1
 have ha:k = 5 -> a = 0:=h.2.2.2.2.2.2
 clear h
 subst hc
 have K0:=hid (show Kept w [(w.1.size,56,#[O U k,O U a,O U b,O U 0])] _ from (Kept.refl w).put1 _ _ #[O U k,O U a,O U b,O U 0] rfl)
 have I1:=hid (fun u=>Bm k 1 9 u (by omega) (by omega))
 have TA:=hid (fun u=>EM a u (by unfold isTm;omega))
 have TB:=hid (fun u=>EM b u (by unfold isTm;omega))
 have TC:=hid (fun u=>EM 0 u (by unfold isTm;omega))
 have AR:=hid (fun u=>PG k k1 k6 u)
 go_enter func98,ntmps98
 go_upto_region 1 with fail
 have k0:=K0.out
 clear K0
 generalize World.alloc _ _ = w0 at k0 |-
 obtain ⟨X0,Y0,-⟩:=k0.rd
 go_wp2_with fail
 refine (I1.out _).mono ?_;rintro e w' ⟨rfl,rfl⟩
 go_wp2_with fail
 refine (TA.out _).mono ?_;rintro e w' ⟨rfl,rfl⟩
 go_wp2_with fail
 refine (TB.out _).mono ?_;rintro e w' ⟨rfl,rfl⟩
 go_wp2_with fail
 refine (TC.out _).mono ?_;rintro e w' ⟨rfl,rfl⟩
 go_wp2_with fail
 refine (AR.out _).mono ?_;rintro e w1 ⟨⟨m,rfl,m1,m2,m3⟩,b1⟩
 have k1':=k0.below b1
 clear k0 X0 Y0 b1
 obtain ⟨X0,Y0,-⟩:=k1'.rd
 have BL:=hid k1'.1
 clear k1'
 have hbb:k = 2 \/ b = 0:=by
  by_cases h:k = 2
  ·exact .inl h
  ·exact .inr (hb h)
 have haa:k ≠ 5 \/ a = 0:=by
  by_cases h:k = 5
  ·exact .inr (ha h)
  ·exact .inl h
 have hm:(m = 0 /\ a = 0 /\ b = 0) \/ (m = 1 /\ b = 0) \/ m = 2:=by omega
 clear m1 m2 m3 k1 k6 hb ha hbb haa
 rcases hm with ⟨rfl,rfl,rfl⟩ | ⟨rfl,rfl⟩ | rfl
 ·go_wp2_with fail
  go_ret
  exact ⟨rfl,BL.out⟩
 ·go_wp2_with fail
  go_ret
  exact ⟨rfl,BL.out⟩
 ·go_wp2_with fail
  go_ret
  exact ⟨rfl,BL.out⟩
theorem OP (x:VolN) (v:Value) (o:Ord) (w:World) (hx:x.Inv) (ho:o.Fair x.counts.length) (hr:RdG w w.1.size x.toG v):
    Calls prog 38 #[v,σ #[O U o.kind,O U o.a,O U o.b,O U o.c]] w (BN w (FF x o.kind o.a o.b o.c)):=by
 have VK:=hid (fun (u:World) (hb:Below w.1.size w u)=>DG x.toG v u hx.toG.1 hx.toG.2.1 (hr.grow hb))
 have OK:=hid (fun (u:World)=>NH ho u)
 have DO:=hid (fun (u:World) (hb:Below w.1.size w u)=>Qk x v u hx ((hr.grow hb).two rfl) o.kind o.a o.b o.c ho.1.1 (by have:=ho.1.2;omega) (by have:=ho.2.1;unfold I64;omega) (fun h=>⟨ho.2.1.1,ho.2.2.1 h⟩))
 have hok:=hx.toG.2.2
 obtain ⟨A,c,B,d,C,e,b,off,s,hv,-⟩:=hr.two rfl
 have hv':v = σ #[O U x.key,ψ A x.counts.length c,ψ B x.trusts.length d,ψ C x.cells.length e,ψ (some ⟨b,off,none⟩) 2 s,O U x.count]:=hv
 subst hv'
 clear hv
 have K0:=hid (show Kept w [(w.1.size + 1 + 1 + 1,52,#[O U 0,O U 0]),(w.1.size + 1 + 1,31,#[O U 0,ψ none 0 0,ψ none 0 0,ψ none 0 0,ψ none 0 0,O U 0]),(w.1.size + 1,56,#[O U o.kind,O U o.a,O U o.b,O U o.c]),(w.1.size,31,#[O U x.key,ψ A x.counts.length c,ψ B x.trusts.length d,ψ C x.cells.length e,ψ (some ⟨b,off,none⟩) 2 s,O U x.count])] _ from (((((Kept.refl w).put1 _ _ #[O U x.key,ψ A x.counts.length c,ψ B x.trusts.length d,ψ C x.cells.length e,ψ (some ⟨b,off,none⟩) 2 s,O U x.count] rfl).put1 _ _ #[O U o.kind,O U o.a,O U o.b,O U o.c] (by simp)).put1 _ _ #[O U 0,ψ none 0 0,ψ none 0 0,ψ none 0 0,ψ none 0 0,O U 0] (by simp)).put1 _ _ #[O U 0,O U 0] (by simp)))
 rw [hok] at VK
 generalize FF x o.kind o.a o.b o.c = Y at DO |-
 obtain ⟨y,q,n⟩:=Y
 clear hr hx ho hok
 go_enter func38,ntmps38
 go_upto_region 1 with fail
 have k0:=K0.out
 clear K0
 generalize World.alloc _ _ = w0 at k0 |-
 obtain ⟨X0,Y0,X1,Y1,X2,Y2,X3,Y3,-⟩:=k0.rd
 go_wp2_with fail
 refine (VK.out _ k0.1).mono ?_;rintro e w1 ⟨rfl,b1⟩
 have k1:=k0.below b1
 clear k0 b1 X0 Y0 X1 Y1 X2 Y2 X3 Y3 VK
 obtain ⟨X0,Y0,X1,Y1,X2,Y2,X3,Y3,-⟩:=k1.rd
 go_wp2_with fail
 refine (OK.out _).mono ?_;rintro e w2 ⟨rfl,b2⟩
 have k2:=k1.below b2
 clear k1 b2 X0 Y0 X1 Y1 X2 Y2 X3 Y3 OK
 obtain ⟨X0,Y0,X1,Y1,X2,Y2,X3,Y3,-⟩:=k2.rd
 go_wp2_with fail
 refine (DO.out _ k2.1).mono ?_;rintro e w3 ⟨cs,rfl,hv3,b3⟩
 obtain ⟨A',c',B',d',C',e',b',o',s',e1,-⟩:=hv3.reads
 injection e1 with e1
 subst e1
 have k3:=k2.below b3
 have z2:w.1.size <= w2.1.size:=k2.1.size
 have l0:w.1.size + 1 + 1 + 1 < w2.1.size:=k2.lt (x:=(w.1.size + 1 + 1 + 1,52,#[O U 0,O U 0])) (by simp)
 clear k2 b3 X0 Y0 X1 Y1 X2 Y2 X3 Y3 DO
 obtain ⟨X0,Y0,X1,Y1,X2,Y2,X3,Y3,-⟩:=k3.rd
 have HV:=hid hv3
 have KK:=hid k3
 clear hv3 k3
 go_wp2_with fail
 obtain ⟨w9,e9,⟨d0,d1,d2,d3,d4,d5⟩,⟨f0,f1⟩,hb9,hv9⟩:=Eq (w:=w) (x0:=O U y.key) (x1:=ψ A' y.counts.length c') (x2:=ψ B' y.trusts.length d') (x3:=ψ C' y.cells.length e') (x4:=ψ (some ⟨b',o',none⟩) 2 s') (x5:=O U y.count) (a0:=O U q) (a1:=O U n) (KK.out.at_ (p:=w.1.size + 1 + 1) (t:=31) (cs:=#[O U 0,ψ none 0 0,ψ none 0 0,ψ none 0 0,ψ none 0 0,O U 0]) (by simp)) (KK.out.at_ (p:=w.1.size + 1 + 1 + 1) (t:=52) (cs:=#[O U 0,O U 0]) (by simp)) (by omega) KK.out.1 (by omega) (by omega)
 rw [e9]
 exact bodyPost_ret (v:=.tuple #[σ #[O U y.key,ψ A' y.counts.length c',ψ B' y.trusts.length d',ψ C' y.cells.length e',ψ (some ⟨b',o',none⟩) 2 s',O U y.count],σ #[O U q,O U n]]) (by simp [results,results38,go_sem,d0,d1,d2,d3,d4,d5,f0,f1]) rfl ⟨_,rfl,(hv9 _ _ _ (by omega) (by omega) HV.out).mono z2,hb9⟩
def FV1 (w:World) (e0:Addr) (A:Option Addr) (l:List Int) (L:List Box) (R:List (VolG × Value)) (u:World):Prop:=
 Kept w L u /\ Bad1 u e0 /\ Ints u .u8 u.1.size A l /\ ∀ r ∈ R,RdG u u.1.size r.1 r.2
section
variable {w u u':World} {e0:Addr} {A:Option Addr} {l:List Int} {L:List Box} {R:List (VolG × Value)}
theorem FV1.grow (h:FV1 w e0 A l L R u) (hb:Below u.1.size u u'):FV1 w e0 A l L R u':=
 ⟨h.1.below hb,h.2.1.below hb,(h.2.2.1.below hb (lr _)).more hb.size,fun r hr=>(h.2.2.2 r hr).grow hb⟩
theorem FV1.nth (h:FV1 w e0 A l L R u) (i:Nat) {x:VolG} {v:Value} (hi:R[i]? = some (x,v)):RdG u u.1.size x v:=h.2.2.2 (x,v) (List.mem_of_getElem? hi)
theorem FV1.add (h:FV1 w e0 A l L R u) {x:VolG} {v:Value} (hr:RdG u u.1.size x v):FV1 w e0 A l L ((x,v) :: R) u:=
 ⟨h.1,h.2.1,h.2.2.1,fun r hm=>by
  rcases List.mem_cons.1 hm with rfl | hm
  ·exact hr
  ·exact h.2.2.2 r hm⟩
theorem FV1.box (h:FV1 w e0 A l L R u) (t:TypeId) (cs:Array Value):FV1 w e0 A l ((u.1.size,t,cs) :: L) R (u.alloc (.cells cs t)):=by
 have hb:Below u.1.size u (u.alloc (.cells cs t)):=(Below.refl _ _).alloc (lr _) _
 exact ⟨h.1.put1 _ t cs rfl,(h.grow hb).2⟩
theorem FV1.step (h:FV1 w e0 A l L R u) {x:VolG} {v:Value} (hb:Below u.1.size u u') (hr:RdG u' u'.1.size x v) (t:TypeId) (cs:Array Value):FV1 w e0 A l ((u'.1.size,t,cs) :: L) ((x,v) :: R) (u'.alloc (.cells cs t)):=
 ((h.grow hb).add hr).box t cs
end
def FW (w:World) (g:Nat) (Ac:Option Addr) (l:List Int) (cap bp base:Nat) (key:Int) (P:Option Addr) (zs:List Int) (pc:Nat) (u:World):Prop:=
 Below w.1.size w u /\ Dice u g Ac l cap /\ Aa u bp 26 #[O U key,ψ P zs.length pc] /\ (Row u base 2 (ψ P zs.length pc) zs /\ ∀ k,(Value.slice P zs.length pc).ownBlock = some k -> k < bp) /\ (w.1.size <= g /\ g < base /\ g < bp)
def FL (F X:World -> Prop) (bp bx br:Nat) (x:VolN) (cs:Array Value) (vL:Value) (L:List Ord) (u:World):Prop:=
 F u /\ X u /\ Aa u bx 31 cs /\ VolO u (bp + 1) x (σ cs) /\ JO u br vL L /\ bp < bx /\ bx < br
section
variable {w u u':World} {g:Nat} {Ac:Option Addr} {l:List Int} {cap bp base:Nat} {key:Int} {P:Option Addr} {zs:List Int} {pc:Nat}
theorem FW.below (h:FW w g Ac l cap bp base key P zs pc u) (hb:Below u.1.size u u'):FW w g Ac l cap bp base key P zs pc u':=
 ⟨h.1.trans (hb.mono h.1.size),EF h.2.1 hb,h.2.2.1.below hb h.2.2.1.lt,⟨h.2.2.2.1.1.below hb,h.2.2.2.1.2⟩,h.2.2.2.2⟩
theorem FW.throw (h:FW w g Ac l cap bp base key P zs pc u) (hd:Dice u' g Ac l cap) (hg:u.grownBy u' (some g)):FW w g Ac l cap bp base key P zs pc u':=by
 obtain ⟨h1,h2,h3,⟨h4,h5⟩,h6,h7,h8⟩:=h
 exact ⟨bgb h1 hg h1.size h6,hd,h3.grown hg (by intro e;injection e;omega),⟨h4.grown hg h7,h5⟩,h6,h7,h8⟩
theorem FW.step (h:FW w g Ac l cap bp base key P zs pc u) {r:Nat} (hg:u.grownBy u' (some r)) (hr:bp < r):FW w g Ac l cap bp base key P zs pc u':=by
 obtain ⟨h1,h2,h3,⟨h4,h5⟩,h6,h7,h8⟩:=h
 have hb:Below (bp + 1) u u':=IB hg (by have:=h3.lt;omega) (fun k e=>by injection e;omega)
 refine ⟨bgb h1 hg h1.size (by omega),h2.below hb (by omega),h3.below hb (Nat.lt_succ_self _),⟨⟨World.ownsRow.kept h4.1 hg ?_,h4.2⟩,h5⟩,h6,h7,h8⟩
 cases e:(Value.slice P zs.length pc).ownBlock with
 | none=>exact .inl rfl
 | some k=>exact .inr (fun e2=>by have h9:=h5 k e;injection e2;omega)
end
section
variable {F X:World -> Prop} {bp bx br:Nat} {x y:VolN} {cs cs':Array Value} {vL:Value} {L:List Ord} {u u':World}
theorem FL.below (hF:∀ u u',F u -> Below u.1.size u u' -> F u') (hX:∀ u u',X u -> u.grownBy u' (some bx) -> X u') (h:FL F X bp bx br x cs vL L u) (hb:Below u.1.size u u'):FL F X bp bx br x cs vL L u':=
 ⟨hF _ _ h.1 hb,hX _ _ h.2.1 (BV hb (some bx)),h.2.2.1.below hb h.2.2.1.lt,h.2.2.2.1.below hb,h.2.2.2.2.1.below hb,h.2.2.2.2.2⟩
theorem FL.put (hF:∀ u u' r,F u -> bp < r -> u.grownBy u' (some r) -> F u') (hX:∀ u u',X u -> u.grownBy u' (some bx) -> X u') (h:FL F X bp bx br x cs vL L u) {b:Nat} (hv:VolO u b y (σ cs')) (hb:bx < b) (hg:u.grownBy u' (some bx)) (hc:Aa u' bx 31 cs'):FL F X bp bx br y cs' vL L u':=by
 obtain ⟨h1,h2,h3,h4,h5,h6,h7⟩:=h
 exact ⟨hF _ _ _ h1 h6 hg,hX _ _ h2 hg,hc,(hv.out hg hb).mono (by omega),h5.grown hg h7,h6,h7⟩
theorem FL.rd (h:FL F X bp bx br x cs vL L u):RdG u u.1.size x.toG (σ cs):=(show VolQ u (bp + 1) (some x) (σ cs) from h.2.2.2.1).reads
end
theorem EH (x:VolN) (s:Int):(Ah x s).1.counts = x.counts:=by
 unfold Ah
 split
 ·rfl
 ·split
  ·rfl
  ·split
   ·rfl
   ·unfold Ep;split <;> rfl
theorem NG (x:VolN) {kind:Int} (hk:1 <= kind /\ kind <= 6) (a b c:Int):(FF x kind a b c).1.counts = x.counts:=by
 unfold FF
 split
 ·exact (ES x a (-1)).2.1
 ·split
  ·exact (FV x a b).2.1
  ·split
   ·exact (DV x a).2.1
   ·split
    ·exact (Gb x a).2.1
    ·split
     ·exact EH x 3
     ·rw [if_pos (by omega)]
      unfold Gq
      split
      ·exact (It (Ah x a).1).2.1.trans (EH x a)
      ·exact EH x a
theorem FV1.sub {w u:World} {e0:Addr} {A:Option Addr} {l:List Int} {L L':List Box} {R R':List (VolG × Value)} (h:FV1 w e0 A l L R u) (hL:∀ x ∈ L',x ∈ L) (hR:∀ r ∈ R',r ∈ R):FV1 w e0 A l L' R' u:=
 ⟨h.1.sub hL,h.2.1,h.2.2.1,fun r hr=>h.2.2.2 r (hR r hr)⟩
theorem Pl (e0:Addr) {x:VolN} {T:List Tru} {M:List Ce} (h:x.Inv) (hc:x.count < 10000) (hp:x.Par) (hs:x.Sealed T M) {s:Int} (h0:0 <= s) (h3:s <= 3):
    ∃ z b:VolG,(b.Short /\ b.Int64 /\ b.okB = true /\ b.cells = (if s = 3 then x.cells else M) /\ b.trusts = (if s = 3 then x.trusts else T)) /\
    (∀ v u,RdG u u.1.size x.toG v -> Bad1 u e0 -> Calls prog 27 #[v,O U s] u (IV u z 0)) /\
    (∀ v u,RdG u u.1.size z v -> Bad1 u e0 -> Calls prog 30 #[v] u (IV u b 0)):=by
 obtain ⟨e1,e2,e3,e4⟩:=Sj h hc hp hs h0 h3
 have hi:=Du h s
 have hf:=GA hi
 have hx:=h.toG
 have hz:=hi.toG
 have hb:=hf.toG
 have g1:Do x.toG s = (some (Ah x s).1,0):=by
  have e:Do x.toG s = (some (Ah x s).1,(Ah x s).2):=if_pos hx.2.2
  rw [e,e1]
 have g2:Dt (Ah x s).1.toG = (some (Bc (Ah x s).1).1,0):=by
  have e:Dt (Ah x s).1.toG = (some (Bc (Ah x s).1).1,(Bc (Ah x s).1).2):=if_pos hz.2.2
  rw [e,e2]
 refine ⟨(Ah x s).1.toG,(Bc (Ah x s).1).1.toG,⟨hb.1,hb.2.1,hb.2.2,e3,e4⟩,fun v u hr he=>?_,fun v u hr he=>?_⟩
 ·have q:=Kv e0 x.toG v u s hx.1 hx.2.1 hr he
  rw [g1] at q
  exact q.mono fun e w' h=>h.v
 ·have q:=Mu e0 _ v u hz.1 hz.2.1 hr he
  rw [g2] at q
  exact q.mono fun e w' h=>h.v
theorem Jb (x y:VolG) (hc:x.cells = y.cells) (hx:x.Short) {A C B A' C' B' E E':Option Addr} {c d e c' d' e' k k':Nat} (u:World) (h:RdG u u.1.size x (σ #[O U x.key,ψ A x.counts.length c,ψ B x.trusts.length d,ψ C x.cells.length e,ψ E x.slots.length k,O U x.count])) (h':RdG u u.1.size y (σ #[O U y.key,ψ A' y.counts.length c',ψ B' y.trusts.length d',ψ C' y.cells.length e',ψ E' y.slots.length k',O U y.count])):
    Calls prog 39 #[ψ C x.cells.length e,ψ C' y.cells.length e'] u fun e w'=>e = τ (φ true) /\ Below u.1.size u w':=by
 obtain ⟨_,_,_,_,_,_,_,_,eq,-,-,i3,-⟩:=h
 obtain ⟨_,_,_,_,_,_,_,_,eq',-,-,j3,-⟩:=h'
 injection eq with eq
 injection eq' with eq'
 simp only [Array.mk.injEq,List.cons.injEq,Value.slice.injEq,true_and,and_true] at eq eq'
 obtain ⟨-,-,⟨rfl,rfl⟩,-⟩:=eq
 obtain ⟨-,-,⟨rfl,rfl⟩,-⟩:=eq'
 have hn:=hx.2.2.1
 rw [hc] at i3 hn |-
 exact Fr C C' y.cells e e' u hn (Cls.ces i3) (Cls.ces j3)
theorem Hs (x y:VolG) (hc:x.trusts = y.trusts) (hx:x.Short) {A C B A' C' B' E E':Option Addr} {c d e c' d' e' k k':Nat} (u:World) (h:RdG u u.1.size x (σ #[O U x.key,ψ A x.counts.length c,ψ B x.trusts.length d,ψ C x.cells.length e,ψ E x.slots.length k,O U x.count])) (h':RdG u u.1.size y (σ #[O U y.key,ψ A' y.counts.length c',ψ B' y.trusts.length d',ψ C' y.cells.length e',ψ E' y.slots.length k',O U y.count])):
    Calls prog 40 #[ψ B x.trusts.length d,ψ B' y.trusts.length d'] u fun e w'=>e = τ (φ true) /\ Below u.1.size u w':=by
 obtain ⟨_,_,_,_,_,_,_,_,eq,-,i3,-⟩:=h
 obtain ⟨_,_,_,_,_,_,_,_,eq',-,j3,-⟩:=h'
 injection eq with eq
 injection eq' with eq'
 simp only [Array.mk.injEq,List.cons.injEq,Value.slice.injEq,true_and,and_true] at eq eq'
 obtain ⟨-,⟨rfl,rfl⟩,-⟩:=eq
 obtain ⟨-,⟨rfl,rfl⟩,-⟩:=eq'
 have hn:x.trusts.length <= maxLen:=by have:=hx.2.1;unfold maxLen;omega
 rw [hc] at i3 hn |-
 exact Fd B B' y.trusts d d' u hn i3 j3

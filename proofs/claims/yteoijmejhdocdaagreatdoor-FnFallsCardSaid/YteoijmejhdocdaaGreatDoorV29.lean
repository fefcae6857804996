import Derived.Test.YteoijmejhdocdaaGreatDoorV28
import Derived.Test.YteoijmejhdocdaaGreatDoorV12
namespace Go.Proofs.YteoijmejhdocdaaGreatDoor.Mx
open Go.ChangeShapes Go.WideShapes Go.ChangeAt Go.RowKit
set_option linter.unusedVariables false
open Go.Lib (hid)
open Go.Proofs.Tryz
set_option maxRecDepth 20000
set_option maxHeartbeats 64000000
open Value renaming int → O, slice → ψ, bool → φ, agg → σ
open IntKind renaming i64 → U
open Ending renaming returned → τ
theorem Iy (m:Int) (w:World):Calls prog 268 #[O U m] w fun e w'=>e = τ (O U m) /\ w = w':=by
 go_enter func268,ntmps268
 go_wp2_with fail
 go_ret
 exact ⟨rfl,rfl⟩
theorem Pb (m:Int) (w:World) (h:isTm m):Calls prog 262 #[O U m] w fun e w'=>e = τ (φ true) /\ w = w':=by
 have C:=hid (fun w=>Iy m w)
 have D:=hid (fun w=>Lo m w h)
 clear h
 go_enter func262,ntmps262
 go_wp2_with fail
 refine (C.out _).mono ?_;rintro e w' ⟨rfl,rfl⟩
 go_wp2_with fail
 refine (D.out _).mono ?_;rintro e w' ⟨rfl,rfl⟩
 go_wp2_with fail
 go_ret
 exact ⟨rfl,rfl⟩
theorem Rb (m:Int) (w:World) (h:¬ isTm m):Calls prog 262 #[O U m] w fun e w'=>e = τ (φ false) /\ w = w':=by
 have C:=hid (fun w=>Iy m w)
 have D:=hid (fun w=>MH m w h)
 clear h
 go_enter func262,ntmps262
 go_wp2_with fail
 refine (C.out _).mono ?_;rintro e w' ⟨rfl,rfl⟩
 go_wp2_with fail
 refine (D.out _).mono ?_;rintro e w' ⟨rfl,rfl⟩
 go_wp2_with fail
 go_ret
 exact ⟨rfl,rfl⟩
theorem LH (t v:Int) (w:World):
    Calls prog 247 #[σ #[O U t,O U v]] w fun e w'=>e = τ (φ (decide (AO t v))) /\ Below w.1.size w w':=by
 by_cases ht:isTm t
 ·have D:=hid (fun w=>Pb t w ht)
  by_cases hv:BP v
  have z_1:=trivial;rotate_left;have z_2:=trivial;rotate_left
  all_goals
   first
    | guard_hyp z_1
      have E:=hid (fun w=>Or v w hv)
      rw [decide_eq_true (show AO t v from ⟨ht,hv⟩)]
    | have E:=hid (fun w=>PE v w hv)
      rw [decide_eq_false (show ¬ AO t v from fun h=>hv h.2)]
   clear ht hv
   go_enter func247,ntmps247
   go_wp2_with fail
   refine (D.out _).mono ?_;rintro e w' ⟨rfl,rfl⟩
   go_wp2_with fail
   refine (E.out _).mono ?_;rintro e w' ⟨rfl,rfl⟩
   go_wp2_with fail
   go_ret
   exact ⟨rfl,(Below.refl _ _).alloc (lr _) _⟩
 ·have D:=hid (fun w=>Rb t w ht)
  rw [decide_eq_false (show ¬ AO t v from fun h=>ht h.1)]
  clear ht
  go_enter func247,ntmps247
  go_wp2_with fail
  refine (D.out _).mono ?_;rintro e w' ⟨rfl,rfl⟩
  go_wp2_with fail
  go_ret
  exact ⟨rfl,(Below.refl _ _).alloc (lr _) _⟩
theorem LN (t v:Int) (w:World):
    Calls prog 246 #[σ #[O U t,O U v]] w fun e w'=>e = τ (σ #[O U t,O U v]) /\ Below w.1.size w w':=by
 go_enter func246,ntmps246
 go_wp2_with fail
 exact bodyPost_ret (v:=σ #[O U t,O U v]) (by simp [results,results246,go_sem]) rfl ⟨rfl,((Below.refl _ _).alloc (lr _) _).alloc (by simp) _⟩
theorem Jr (t v:Int) (w:World):
    Calls prog 219 #[σ #[O U t,O U v]] w fun e w'=>e = τ (φ (decide (AO t v))) /\ Below w.1.size w w':=by
 have C:=hid (fun w=>LN t v w)
 have D:=hid (fun w=>LH t v w)
 generalize decide (AO t v) = b at D
 go_enter func219,ntmps219
 go_wp2_with fail
 refine (C.out _).mono ?_;rintro e w1 ⟨rfl,b1⟩
 have B1:=hid (((Below.refl w.1.size w).alloc (lr _) _).trans (b1.mono (by simp)))
 clear b1
 go_wp2_with fail
 refine (D.out _).mono ?_;rintro e w2 ⟨rfl,b2⟩
 have B2:=hid (B1.out.trans (b2.mono B1.out.size))
 clear b2
 go_wp2_with fail
 go_ret
 exact ⟨rfl,B2.out⟩
theorem KQ (t v:Int) (w:World):
    Calls prog 156 #[σ #[O U t,O U v]] w fun e w'=>e = τ (φ (!decide (AO t v))) /\ Below w.1.size w w':=by
 have K0:=hid (show Kept w [(w.1.size,118,#[O U t,O U v])] _ from (Kept.refl w).put1 _ _ #[O U t,O U v] rfl)
 have D:=hid (fun w=>Jr t v w)
 generalize decide (AO t v) = b at D
 go_enter func156,ntmps156
 have k0:=K0.out
 clear K0
 obtain ⟨X0,Y0,-⟩:=k0.rd
 have K0:=hid k0
 clear k0
 go_wp2_with fail
 refine (D.out _).mono ?_;rintro e w1 ⟨rfl,b1⟩
 have K1:=hid (K0.out.below b1)
 clear b1
 go_wp2_with fail
 go_ret
 exact ⟨rfl,K1.out.1⟩
open Classical in
noncomputable def upB (L:List Ce):Bool:=decide (EZ L L.length)
open Classical in
theorem Qb {L:List Ce} (h:EZ L L.length):upB L = true:=by unfold upB;exact decide_eq_true h
open Classical in
theorem Rs {L:List Ce} (h:¬ EZ L L.length):upB L = false:=by unfold upB;exact decide_eq_false h
theorem OX (A:Option Addr) (L:List Ce) (cap:Nat) (w:World) (hn:L.length <= maxLen) (hA:Cls w w.1.size A L):
    Calls prog 218 #[ψ A L.length cap,.func (.func 156) #[] #[]] w fun e w'=>(∃ i:Int,e = τ (O U i) /\ decide (0 <= i) = !upB L) /\ Below w.1.size w w':=by
 unfold maxLen at hn
 have C:=hid KQ
 have HA:=hid hA
 clear hA
 go_enter func218,ntmps218
 go_wp2_with fail
 go_loopw [8] (fun i wr=>∃ k:Nat,k <= L.length /\ i = O U k /\ EZ L k /\ Below w.1.size w wr) (fun i _=>L.length - (intOf i).toNat)
 case atStart=>exact ⟨0,Nat.zero_le _,rfl,fun i hi=>absurd hi (by omega),Below.refl _ _⟩
 case round=>
  obtain ⟨k,hk,rfl,hup,hz⟩:=hrel
  have HU:=hid hup
  have HZ:=hid hz
  clear hup
  by_cases hlt:k < L.length
  ·obtain ⟨b,off,rfl,hb,hc⟩:=HA.out.at_ hlt
   have hlt':(k:Int) < L.length:=by omega
   have hk0:(0:Int) <= k:=by omega
   obtain ⟨c0,c1⟩:=hc.below hz hb
   clear hz hc
   by_cases hok:AO (L.getD k default).1 (L.getD k default).2
   ·have NX:=hid (show EZ L (k + 1) from fun i hi=>by
      rcases Nat.lt_or_ge i k with h | h
      ·exact HU.out i h
      ·obtain rfl:i = k:=by omega
       exact hok)
    have TB:=hid (C.out (L.getD k default).1 (L.getD k default).2)
    rw [decide_eq_true hok] at TB
    clear hok HU
    generalize L.getD k default = t at TB c0 c1
    go_wp2_with fail
    refine (TB.out _).mono ?_;rintro e w1 ⟨rfl,b1⟩
    have H1:=hid (HZ.out.trans (b1.mono HZ.out.size))
    clear b1 c0 c1
    go_wp2_with fail
    go_roundw
    case rel=>exact ⟨k + 1,by omega,by go_num,NX.out,H1.out⟩
    case measure=>simp [intOf];omega
   ·have HX:=hid (show decide ((0:Int) <= k) = !upB L by rw [decide_eq_true hk0,Rs (fun h=>hok (h k hlt))];rfl)
    have TB:=hid (C.out (L.getD k default).1 (L.getD k default).2)
    rw [decide_eq_false hok] at TB
    clear hok HU
    generalize L.getD k default = t at TB c0 c1
    go_wp2_with fail
    refine (TB.out _).mono ?_;rintro e w1 ⟨rfl,b1⟩
    have H1:=hid (HZ.out.trans (b1.mono HZ.out.size))
    clear b1 c0 c1
    go_wp2_with fail
    go_ret
    exact ⟨⟨_,rfl,HX.out⟩,H1.out⟩
  ·have hk':k = L.length:=by omega
   subst hk'
   have HX:=hid (show decide ((0:Int) <= -1) = !upB L by rw [Qb HU.out];rfl)
   clear HU hz
   go_wp2_with fail
   go_ret
   exact ⟨⟨_,rfl,HX.out⟩,HZ.out⟩
theorem Lp (A:Option Addr) (L:List Ce) (cap:Nat) (w:World) (hn:L.length <= maxLen) (hA:Cls w w.1.size A L):
    Calls prog 155 #[ψ A L.length cap,.func (.func 156) #[] #[]] w fun e w'=>e = τ (φ (!upB L)) /\ Below w.1.size w w':=by
 have C:=hid (OX A L cap w hn hA)
 generalize (!upB L) = b at C
 clear hA
 unfold maxLen at hn
 go_enter func155,ntmps155
 go_wp2_with fail
 refine C.out.mono ?_;rintro e w1 ⟨⟨i,rfl,hi⟩,b1⟩
 have B1:=hid b1
 clear b1 C
 by_cases h0:0 <= i
 ·rw [decide_eq_true h0] at hi
  subst hi
  go_wp2_with fail
  go_ret
  exact ⟨rfl,B1.out⟩
 ·rw [decide_eq_false h0] at hi
  subst hi
  have hneg:decide (0 <= i) = false:=decide_eq_false h0
  clear h0
  go_wp2_with fail
  go_ret
  exact ⟨by rw [<- hneg];rfl,B1.out⟩
theorem Fe (key:Int) (A C:Option Addr) (l:List Int) (cap:Nat) (hcap:l.length <= cap) (L:List Ce) (cap2:Nat) (w:World) (hn:l.length <= maxLen) (hA:Ints w U w.1.size A l) (hN:L.length <= maxLen) (hC:Cls w w.1.size C L):
    Calls prog 76 #[σ #[O U key,ψ A l.length cap],ψ C L.length cap2] w fun e w'=>e = τ (φ (Dm key l L)) /\ Below w.1.size w w':=by
 have K0:=hid (show Kept w [(w.1.size,26,#[O U key,ψ A l.length cap])] _ from (Kept.refl w).put1 _ _ #[O U key,ψ A l.length cap] rfl)
 have PO:=hid (fun (u:World) (hb:Below w.1.size w u)=>JY key A l cap u hn hcap ((hA.below hb (lr _)).more hb.size))
 have CO:=hid (fun (u:World) (hb:Below w.1.size w u)=>Lp C L cap2 u hN ((hC.below hb (lr _)).more hb.size))
 clear hA hC hn hcap
 unfold maxLen at hN
 by_cases hs:(L.length:Int) = Bi key l
 ·have hbl:((L.length:Int) == Bi key l) = true:=beq_iff_eq.2 hs
  have HX:=hid (show upB L = Dm key l L from by
   by_cases h:EZ L L.length
   ·rw [Qb h,EQ (show CP key l L from ⟨h,hs⟩)]
   ·rw [Rs h,Gd (show ¬ CP key l L from fun e=>h e.1)])
  generalize upB L = b at CO HX
  generalize Dm key l L = z at HX |-
  obtain rfl:=HX.out
  generalize Bi key l = ss at PO hbl
  clear hs HX
  go_enter func76,ntmps76
  go_wp2_with fail
  refine (PO.out _ K0.out.1).mono ?_;rintro e uz1 ⟨rfl,bz2⟩
  have hz3:=K0.out.below bz2
  clear bz2
  obtain ⟨X0,Y0,-⟩:=hz3.rd
  go_wp2_with fail
  refine (CO.out _ hz3.1).mono ?_;rintro e uz4 ⟨rfl,bz5⟩
  have hz6:=hz3.below bz5
  clear bz5 hz3 X0 Y0
  obtain ⟨X0,Y0,-⟩:=hz6.rd
  go_wp2_with fail
  go_ret
  exact ⟨by simp,hz6.1⟩
 ·have hbl:((L.length:Int) == Bi key l) = false:=beq_false_of_ne hs
  have HX:=hid (Gd (show ¬ CP key l L from fun h=>hs h.2))
  generalize Bi key l = ss at PO hbl
  clear hs CO
  go_enter func76,ntmps76
  go_wp2_with fail
  refine (PO.out _ K0.out.1).mono ?_;rintro e uz1 ⟨rfl,bz2⟩
  have hz3:=K0.out.below bz2
  clear bz2
  obtain ⟨X0,Y0,-⟩:=hz3.rd
  go_wp2_with fail
  go_ret
  exact ⟨by rw [HX.out];rfl,hz3.1⟩
theorem Ji (key:Int) (A:Option Addr) (l:List Int) (cap:Nat) (hcap:l.length <= cap) (cnt:Int) (B:Option Addr) (L:List Tru) (tc:Nat) (mac:Int) (C:Option Addr) (M:List Ce) (cc:Nat) (w:World) (hn:l.length <= 1048576) (hA:Ints w U w.1.size A l) (hN:L.length <= 1048576) (hB:Trs w w.1.size B L) (hI:Cx L) (hc0:I64 cnt) (hM:M.length <= 1048576) (hC:Cls w w.1.size C M):
    Calls prog 165 #[σ #[O U key,ψ A l.length cap],σ #[O U cnt,ψ B L.length tc,O U mac,ψ C M.length cc]] w fun e w'=>e = τ (φ (Fv key l cnt L mac M)) /\ Below w.1.size w w':=by
 have K0:=hid (show Kept w [(w.1.size + 1,91,#[O U cnt,ψ B L.length tc,O U mac,ψ C M.length cc]),(w.1.size,26,#[O U key,ψ A l.length cap])] _ from (((Kept.refl w).put1 _ _ #[O U key,ψ A l.length cap] rfl).put1 _ _ #[O U cnt,ψ B L.length tc,O U mac,ψ C M.length cc] (by simp)))
 have SO:=hid (fun (u:World) (hb:Below w.1.size w u)=>Jn key A l cap hcap cnt B L tc mac u hn ((hA.below hb (lr _)).more hb.size) hN ((hB.below hb (lr _)).more hb.size) hI hc0)
 have CL:=hid (fun (u:World) (hb:Below w.1.size w u)=>Fe key A C l cap hcap M cc u (by unfold maxLen;omega) ((hA.below hb (lr _)).more hb.size) (by unfold maxLen;omega) ((hC.below hb (lr _)).more hb.size))
 clear hA hB hN hI hc0 hn hC hM hcap
 unfold Fv
 generalize Ho key l cnt L mac = so at SO |-
 generalize Dm key l M = co at CL |-
 cases so with
 | false=>
   rw [Bool.false_and]
   clear CL
   go_enter func165,ntmps165
   go_wp2_with fail
   refine (SO.out _ K0.out.1).mono ?_;rintro e uz1 ⟨rfl,bz2⟩
   have hz3:=K0.out.below bz2
   clear bz2
   obtain ⟨X0,Y0,X1,Y1,-⟩:=hz3.rd
   go_wp2_with fail
   go_ret
   exact ⟨rfl,hz3.1⟩
 | true=>
   rw [Bool.true_and]
   go_enter func165,ntmps165
   go_wp2_with fail
   refine (SO.out _ K0.out.1).mono ?_;rintro e uz1 ⟨rfl,bz2⟩
   have hz3:=K0.out.below bz2
   clear bz2
   obtain ⟨X0,Y0,X1,Y1,-⟩:=hz3.rd
   go_wp2_with fail
   refine (CL.out _ hz3.1).mono ?_;rintro e uz4 ⟨rfl,bz5⟩
   have hz6:=hz3.below bz5
   clear bz5 hz3 X0 Y0 X1 Y1
   obtain ⟨X0,Y0,X1,Y1,-⟩:=hz6.rd
   go_wp2_with fail
   go_ret
   exact ⟨rfl,hz6.1⟩
theorem MI {w w1:World} {r:Nat} {t:TypeId} {x0 x1 x2 x3 x4 x5 x6 x7 z0 z1 z2 z3 z4 z5 z6 z7:Value} (hk:Aa w1 r t #[z0,z1,z2,z3,z4,z5,z6,z7]) (hb:Below w.1.size w w1) (hr:w.1.size <= r):
    ∃ w9,((((((((w1.setCell ⟨r,0,none⟩ x0).setCell ⟨r,1,none⟩ x1).setCell ⟨r,2,none⟩ x2).setCell ⟨r,3,none⟩ x3).setCell ⟨r,4,none⟩ x4).setCell ⟨r,5,none⟩ x5).setCell ⟨r,6,none⟩ x6).setCell ⟨r,7,none⟩ x7) = w9 /\ (w9.cell? ⟨r,0,none⟩ = some x0 /\ w9.cell? ⟨r,1,none⟩ = some x1 /\ w9.cell? ⟨r,2,none⟩ = some x2 /\ w9.cell? ⟨r,3,none⟩ = some x3 /\ w9.cell? ⟨r,4,none⟩ = some x4 /\ w9.cell? ⟨r,5,none⟩ = some x5 /\ w9.cell? ⟨r,6,none⟩ = some x6 /\ w9.cell? ⟨r,7,none⟩ = some x7) /\ Below w.1.size w w9:=by
 have h0:Aa _ r t #[x0,z1,z2,z3,z4,z5,z6,z7]:=hk.set_ 0 x0
 have h1:Aa _ r t #[x0,x1,z2,z3,z4,z5,z6,z7]:=h0.set_ 1 x1
 have h2:Aa _ r t #[x0,x1,x2,z3,z4,z5,z6,z7]:=h1.set_ 2 x2
 have h3:Aa _ r t #[x0,x1,x2,x3,z4,z5,z6,z7]:=h2.set_ 3 x3
 have h4:Aa _ r t #[x0,x1,x2,x3,x4,z5,z6,z7]:=h3.set_ 4 x4
 have h5:Aa _ r t #[x0,x1,x2,x3,x4,x5,z6,z7]:=h4.set_ 5 x5
 have h6:Aa _ r t #[x0,x1,x2,x3,x4,x5,x6,z7]:=h5.set_ 6 x6
 have h:Aa _ r t #[x0,x1,x2,x3,x4,x5,x6,x7]:=h6.set_ 7 x7
 exact ⟨_,rfl,⟨h.cell 0,h.cell 1,h.cell 2,h.cell 3,h.cell 4,h.cell 5,h.cell 6,h.cell 7⟩,(((((((hb.setCell (p:=⟨r,0,none⟩) hr x0).setCell (p:=⟨r,1,none⟩) hr x1).setCell (p:=⟨r,2,none⟩) hr x2).setCell (p:=⟨r,3,none⟩) hr x3).setCell (p:=⟨r,4,none⟩) hr x4).setCell (p:=⟨r,5,none⟩) hr x5).setCell (p:=⟨r,6,none⟩) hr x6).setCell (p:=⟨r,7,none⟩) hr x7⟩
theorem Gr:(∀ (b off n cap:Nat) (a:Int) (E:Option Addr) (na ca:Nat) (m:Int) (G:Option Addr) (nc cc:Nat) (a2:Int) (E2:Option Addr) (na2 ca2:Nat) (m2:Int) (G2:Option Addr) (nc2 cc2:Nat) (w:World) (hb:b < w.1.size) (hn:2 <= n) (h0:w.cell? ⟨b,off,none⟩ = some (O U a)) (h1:w.cell? ⟨b,off + 1,none⟩ = some (ψ E na ca)) (h2:w.cell? ⟨b,off + 2,none⟩ = some (O U m)) (h3:w.cell? ⟨b,off + 3,none⟩ = some (ψ G nc cc)) (h4:w.cell? ⟨b,off + 4,none⟩ = some (O U a2)) (h5:w.cell? ⟨b,off + 5,none⟩ = some (ψ E2 na2 ca2)) (h6:w.cell? ⟨b,off + 6,none⟩ = some (O U m2)) (h7:w.cell? ⟨b,off + 7,none⟩ = some (ψ G2 nc2 cc2)),Calls prog 164 #[ψ (some ⟨b,off,none⟩) n cap] w fun e w'=>e = τ (σ #[O U a,ψ E na ca,O U m,ψ G nc cc,O U a2,ψ E2 na2 ca2,O U m2,ψ G2 nc2 cc2]) /\ Below w.1.size w w') /\
 (∀ (b off n cap:Nat) (a:Int) (E:Option Addr) (na ca:Nat) (m:Int) (G:Option Addr) (nc cc:Nat) (w:World) (hb:b < w.1.size) (h0:w.cell? ⟨b,off,none⟩ = some (O U a)) (h1:w.cell? ⟨b,off + 1,none⟩ = some (ψ E na ca)) (h2:w.cell? ⟨b,off + 2,none⟩ = some (O U m)) (h3:w.cell? ⟨b,off + 3,none⟩ = some (ψ G nc cc)),Calls prog 164 #[ψ (some ⟨b,off,none⟩) 1 cap] w fun e w'=>e = τ (σ #[O U a,ψ E na ca,O U m,ψ G nc cc,O U 0,ψ none 0 0,O U 0,ψ none 0 0]) /\ Below w.1.size w w'):=by
 refine ⟨fun b off n cap a E na ca m G nc cc a2 E2 na2 ca2 m2 G2 nc2 cc2 w hb hn h0 h1 h2 h3 h4 h5 h6 h7=>(fun (z_1:True)=>?_) trivial,fun b off n cap a E na ca m G nc cc w hb h0 h1 h2 h3=>(fun (z_2:True)=>?_) trivial⟩
 all_goals
  have K0:=hid (show Kept w [(w.1.size + 1,98,#[O U 0,ψ none 0 0,O U 0,ψ none 0 0,O U 0,ψ none 0 0,O U 0,ψ none 0 0]),(w.1.size,98,#[O U 0,ψ none 0 0,O U 0,ψ none 0 0,O U 0,ψ none 0 0,O U 0,ψ none 0 0])] _ from (((Kept.refl w).put1 _ _ #[O U 0,ψ none 0 0,O U 0,ψ none 0 0,O U 0,ψ none 0 0,O U 0,ψ none 0 0] rfl).put1 _ _ #[O U 0,ψ none 0 0,O U 0,ψ none 0 0,O U 0,ψ none 0 0,O U 0,ψ none 0 0] (by simp)))
  first
   | guard_hyp z_1
     have hsrc:∀ j v,([O U a,ψ E na ca,O U m,ψ G nc cc,O U a2,ψ E2 na2 ca2,O U m2,ψ G2 nc2 cc2]:List Value)[j]? = some v -> ((w.alloc (.cells #[O U 0,ψ none 0 0,O U 0,ψ none 0 0,O U 0,ψ none 0 0,O U 0,ψ none 0 0] 98)).alloc (.cells #[O U 0,ψ none 0 0,O U 0,ψ none 0 0,O U 0,ψ none 0 0,O U 0,ψ none 0 0] 98)).cell? (Addr.add ⟨b,off,none⟩ j) = some v:=by
      have hbb:=K0.out.1
      intro j v hv
      rw [Addr.add_mid,hbb.cell (p:=⟨b,off + j,none⟩) hb]
      have hj:j < 8:=(List.getElem?_eq_some_iff.1 hv).1
      rcases (by omega:j = 0 \/ j = 1 \/ j = 2 \/ j = 3 \/ j = 4 \/ j = 5 \/ j = 6 \/ j = 7) with rfl | rfl | rfl | rfl | rfl | rfl | rfl | rfl <;> simp only [List.getElem?_cons_zero,List.getElem?_cons_succ,Option.some.injEq] at hv <;> subst hv <;> assumption
   | have hsrc:∀ j v,([O U a,ψ E na ca,O U m,ψ G nc cc]:List Value)[j]? = some v -> ((w.alloc (.cells #[O U 0,ψ none 0 0,O U 0,ψ none 0 0,O U 0,ψ none 0 0,O U 0,ψ none 0 0] 98)).alloc (.cells #[O U 0,ψ none 0 0,O U 0,ψ none 0 0,O U 0,ψ none 0 0,O U 0,ψ none 0 0] 98)).cell? (Addr.add ⟨b,off,none⟩ j) = some v:=by
       have hbb:=K0.out.1
       intro j v hv
       rw [Addr.add_mid,hbb.cell (p:=⟨b,off + j,none⟩) hb]
       have hj:j < 4:=(List.getElem?_eq_some_iff.1 hv).1
       rcases (by omega:j = 0 \/ j = 1 \/ j = 2 \/ j = 3) with rfl | rfl | rfl | rfl <;> simp only [List.getElem?_cons_zero,List.getElem?_cons_succ,Option.some.injEq] at hv <;> subst hv <;> assumption
  have HS:=hid hsrc
  first
   | guard_hyp z_1
     clear hsrc h0 h1 h2 h3 h4 h5 h6 h7
   | clear hsrc h0 h1 h2 h3
  go_enter func164,ntmps164
  go_upto_region 2 with fail
  have k0:=K0.out
  clear K0
  have hg0:((w.alloc (.cells #[O U 0,ψ none 0 0,O U 0,ψ none 0 0,O U 0,ψ none 0 0,O U 0,ψ none 0 0] 98)).alloc (.cells #[O U 0,ψ none 0 0,O U 0,ψ none 0 0,O U 0,ψ none 0 0,O U 0,ψ none 0 0] 98)).1[w.1.size + 1]? = some (.cells #[O U 0,ψ none 0 0,O U 0,ψ none 0 0,O U 0,ψ none 0 0,O U 0,ψ none 0 0] 98 (0,0)):=k0.at_ (p:=w.1.size + 1) (t:=98) (cs:=#[O U 0,ψ none 0 0,O U 0,ψ none 0 0,O U 0,ψ none 0 0,O U 0,ψ none 0 0]) (by simp)
  have hs0:=HS.out
  generalize World.alloc (World.alloc _ _) _ = w1 at k0 hg0 hs0 |-
  first
   | guard_hyp z_1
     have hrun:=Dh (P:=prog) w1 29 29 3 91 (w.1.size + 1) 0 2 2 ⟨b,off,none⟩ n cap #[O U 0,ψ none 0 0,O U 0,ψ none 0 0,O U 0,ψ none 0 0,O U 0,ψ none 0 0] 98 ([O U a,ψ E na ca,O U m,ψ G nc cc,O U a2,ψ E2 na2 ca2,O U m2,ψ G2 nc2 cc2]:List Value) 4 underlying29 (by kernel_rfl) hg0 (by rw [show Nat.min n 2 = 2 from Nat.min_eq_right hn];rfl) hs0 (by simp) (by simp [Value.oneCell'])
     rw [show Nat.min n 2 = 2 from Nat.min_eq_right hn] at hrun
     have hg2:Aa (w1.setRow (w.1.size + 1) ((#[O U 0,ψ none 0 0,O U 0,ψ none 0 0,O U 0,ψ none 0 0,O U 0,ψ none 0 0]:Array Value).toList.take 0 ++ ([O U a,ψ E na ca,O U m,ψ G nc cc,O U a2,ψ E2 na2 ca2,O U m2,ψ G2 nc2 cc2]:List Value) ++ (#[O U 0,ψ none 0 0,O U 0,ψ none 0 0,O U 0,ψ none 0 0,O U 0,ψ none 0 0]:Array Value).toList.drop (0 + ([O U a,ψ E na ca,O U m,ψ G nc cc,O U a2,ψ E2 na2 ca2,O U m2,ψ G2 nc2 cc2]:List Value).length)).toArray) (w.1.size + 1) 98 #[O U a,ψ E na ca,O U m,ψ G nc cc,O U a2,ψ E2 na2 ca2,O U m2,ψ G2 nc2 cc2]:=setRow_heap w1 (w.1.size + 1) #[O U 0,ψ none 0 0,O U 0,ψ none 0 0,O U 0,ψ none 0 0,O U 0,ψ none 0 0] ((#[O U 0,ψ none 0 0,O U 0,ψ none 0 0,O U 0,ψ none 0 0,O U 0,ψ none 0 0]:Array Value).toList.take 0 ++ ([O U a,ψ E na ca,O U m,ψ G nc cc,O U a2,ψ E2 na2 ca2,O U m2,ψ G2 nc2 cc2]:List Value) ++ (#[O U 0,ψ none 0 0,O U 0,ψ none 0 0,O U 0,ψ none 0 0,O U 0,ψ none 0 0]:Array Value).toList.drop (0 + ([O U a,ψ E na ca,O U m,ψ G nc cc,O U a2,ψ E2 na2 ca2,O U m2,ψ G2 nc2 cc2]:List Value).length)).toArray 98 _ hg0
     have hgb2:(w1.grownBy (w1.setRow (w.1.size + 1) ((#[O U 0,ψ none 0 0,O U 0,ψ none 0 0,O U 0,ψ none 0 0,O U 0,ψ none 0 0]:Array Value).toList.take 0 ++ ([O U a,ψ E na ca,O U m,ψ G nc cc,O U a2,ψ E2 na2 ca2,O U m2,ψ G2 nc2 cc2]:List Value) ++ (#[O U 0,ψ none 0 0,O U 0,ψ none 0 0,O U 0,ψ none 0 0,O U 0,ψ none 0 0]:Array Value).toList.drop (0 + ([O U a,ψ E na ca,O U m,ψ G nc cc,O U a2,ψ E2 na2 ca2,O U m2,ψ G2 nc2 cc2]:List Value).length)).toArray) (some (w.1.size + 1))):=⟨rfl,rfl,rfl,by simp [World.setRow],fun k _ hk=>setRow_other w1 (w.1.size + 1) k _ (by intro e;exact hk (by rw [e]))⟩
   | have hrun:=Dh (P:=prog) w1 29 29 3 91 (w.1.size + 1) 0 2 2 ⟨b,off,none⟩ 1 cap #[O U 0,ψ none 0 0,O U 0,ψ none 0 0,O U 0,ψ none 0 0,O U 0,ψ none 0 0] 98 ([O U a,ψ E na ca,O U m,ψ G nc cc]:List Value) 4 underlying29 (by kernel_rfl) hg0 (by rw [show Nat.min 1 2 = 1 from rfl];rfl) hs0 (by simp) (by simp [Value.oneCell'])
     rw [show Nat.min 1 2 = 1 from rfl] at hrun
     have hg2:Aa (w1.setRow (w.1.size + 1) ((#[O U 0,ψ none 0 0,O U 0,ψ none 0 0,O U 0,ψ none 0 0,O U 0,ψ none 0 0]:Array Value).toList.take 0 ++ ([O U a,ψ E na ca,O U m,ψ G nc cc]:List Value) ++ (#[O U 0,ψ none 0 0,O U 0,ψ none 0 0,O U 0,ψ none 0 0,O U 0,ψ none 0 0]:Array Value).toList.drop (0 + ([O U a,ψ E na ca,O U m,ψ G nc cc]:List Value).length)).toArray) (w.1.size + 1) 98 #[O U a,ψ E na ca,O U m,ψ G nc cc,O U 0,ψ none 0 0,O U 0,ψ none 0 0]:=setRow_heap w1 (w.1.size + 1) #[O U 0,ψ none 0 0,O U 0,ψ none 0 0,O U 0,ψ none 0 0,O U 0,ψ none 0 0] ((#[O U 0,ψ none 0 0,O U 0,ψ none 0 0,O U 0,ψ none 0 0,O U 0,ψ none 0 0]:Array Value).toList.take 0 ++ ([O U a,ψ E na ca,O U m,ψ G nc cc]:List Value) ++ (#[O U 0,ψ none 0 0,O U 0,ψ none 0 0,O U 0,ψ none 0 0,O U 0,ψ none 0 0]:Array Value).toList.drop (0 + ([O U a,ψ E na ca,O U m,ψ G nc cc]:List Value).length)).toArray 98 _ hg0
     have hgb2:(w1.grownBy (w1.setRow (w.1.size + 1) ((#[O U 0,ψ none 0 0,O U 0,ψ none 0 0,O U 0,ψ none 0 0,O U 0,ψ none 0 0]:Array Value).toList.take 0 ++ ([O U a,ψ E na ca,O U m,ψ G nc cc]:List Value) ++ (#[O U 0,ψ none 0 0,O U 0,ψ none 0 0,O U 0,ψ none 0 0,O U 0,ψ none 0 0]:Array Value).toList.drop (0 + ([O U a,ψ E na ca,O U m,ψ G nc cc]:List Value).length)).toArray) (some (w.1.size + 1))):=⟨rfl,rfl,rfl,by simp [World.setRow],fun k _ hk=>setRow_other w1 (w.1.size + 1) k _ (by intro e;exact hk (by rw [e]))⟩
  generalize World.setRow w1 _ _ = w2 at hrun hg2 hgb2
  first
   | guard_hyp z_1
     have k2:Kept w [(w.1.size + 1,98,#[O U a,ψ E na ca,O U m,ψ G nc cc,O U a2,ψ E2 na2 ca2,O U m2,ψ G2 nc2 cc2]),(w.1.size,98,#[O U 0,ψ none 0 0,O U 0,ψ none 0 0,O U 0,ψ none 0 0,O U 0,ψ none 0 0])] w2:=k0.put (k:=0) rfl (by unfold Apart;simp <;> omega) hgb2 hg2
   | have k2:Kept w [(w.1.size + 1,98,#[O U a,ψ E na ca,O U m,ψ G nc cc,O U 0,ψ none 0 0,O U 0,ψ none 0 0]),(w.1.size,98,#[O U 0,ψ none 0 0,O U 0,ψ none 0 0,O U 0,ψ none 0 0,O U 0,ψ none 0 0])] w2:=k0.put (k:=0) rfl (by unfold Apart;simp <;> omega) hgb2 hg2
  clear k0 hg0 hs0 hg2 hgb2 HS
  obtain ⟨X0,Y0,X1,Y1,-⟩:=k2.rd
  have K2:=hid k2
  clear k2
  go_wp2_with fail
  first
   | guard_hyp z_1
     obtain ⟨w9,e9,⟨d0,d1,d2,d3,d4,d5,d6,d7⟩,hb9⟩:=MI (w:=w) (x0:=O U a) (x1:=ψ E na ca) (x2:=O U m) (x3:=ψ G nc cc) (x4:=O U a2) (x5:=ψ E2 na2 ca2) (x6:=O U m2) (x7:=ψ G2 nc2 cc2) (K2.out.at_ (p:=w.1.size) (t:=98) (cs:=#[O U 0,ψ none 0 0,O U 0,ψ none 0 0,O U 0,ψ none 0 0,O U 0,ψ none 0 0]) (by simp)) K2.out.1 (lr _)
   | obtain ⟨w9,e9,⟨d0,d1,d2,d3,d4,d5,d6,d7⟩,hb9⟩:=MI (w:=w) (x0:=O U a) (x1:=ψ E na ca) (x2:=O U m) (x3:=ψ G nc cc) (x4:=O U 0) (x5:=ψ none 0 0) (x6:=O U 0) (x7:=ψ none 0 0) (K2.out.at_ (p:=w.1.size) (t:=98) (cs:=#[O U 0,ψ none 0 0,O U 0,ψ none 0 0,O U 0,ψ none 0 0,O U 0,ψ none 0 0]) (by simp)) K2.out.1 (lr _)
  rw [e9]
  first
   | guard_hyp z_1
     exact bodyPost_ret (v:=σ #[O U a,ψ E na ca,O U m,ψ G nc cc,O U a2,ψ E2 na2 ca2,O U m2,ψ G2 nc2 cc2]) (by simp [results,results164,go_sem,d0,d1,d2,d3,d4,d5,d6,d7]) rfl ⟨rfl,hb9⟩
   | exact bodyPost_ret (v:=σ #[O U a,ψ E na ca,O U m,ψ G nc cc,O U 0,ψ none 0 0,O U 0,ψ none 0 0]) (by simp [results,results164,go_sem,d0,d1,d2,d3,d4,d5,d6,d7]) rfl ⟨rfl,hb9⟩
theorem QH:type_of% Gr.1:=Gr.1
theorem Qq:type_of% Gr.2:=Gr.2
theorem DM.two {w:World} {D:Option Addr} {S:List SlN} (hD:DM w w.1.size D S) (j:Nat) (hj:j < S.length):
    ∃ b off,D = some ⟨b,off,none⟩ /\ ∃ B0 t0 C0 c0 B1 t1 C1 c1,SlR w w.1.size B0 t0 C0 c0 (S.getD j default) /\ SlR w w.1.size B1 t1 C1 c1 (S.getD (j + 1) default) /\ ∀ cap,Calls prog 164 #[ψ (some ⟨b,off + j * 4,none⟩) (S.length - j) cap] w fun e w'=>e = τ (σ #[O U (S.getD j default).count,ψ B0 (S.getD j default).trusts.length t0,O U (S.getD j default).mac,ψ C0 (S.getD j default).cells.length c0,O U (S.getD (j + 1) default).count,ψ B1 (S.getD (j + 1) default).trusts.length t1,O U (S.getD (j + 1) default).mac,ψ C1 (S.getD (j + 1) default).cells.length c1]) /\ Below w.1.size w w':=by
 obtain ⟨b,off,rfl,hb,B0,t0,C0,c0,h0,h1,h2,h3,hr0⟩:=hD j hj
 refine ⟨b,off,rfl,B0,t0,C0,c0,?_⟩
 by_cases h:j + 1 < S.length
 ·obtain ⟨b',off',e,_,B1,t1,C1,c1,g0,g1,g2,g3,hr1⟩:=hD (j + 1) h
  simp only [Option.some.injEq,Addr.mk.injEq] at e
  obtain ⟨rfl,rfl,_⟩:=e
  refine ⟨B1,t1,C1,c1,hr0,hr1,fun cap=>?_⟩
  rw [show off + (j + 1) * 4 = off + j * 4 + 4 by omega] at g0 g1 g2 g3
  exact QH b (off + j * 4) (S.length - j) cap _ _ _ _ _ _ _ _ _ _ _ _ _ _ _ _ w hb (by omega) h0 h1 h2 h3 g0 g1 g2 g3
 ·have hd:S.getD (j + 1) default = default:=by rw [List.getD_eq_getElem?_getD,List.getElem?_eq_none (by omega)];rfl
  rw [hd,show S.length - j = 1 by omega]
  refine ⟨none,0,none,0,hr0,⟨Sls.nil,Sls.nil⟩,fun cap=>?_⟩
  exact Qq b (off + j * 4) 1 cap _ _ _ _ _ _ _ _ w hb h0 h1 h2 h3
theorem Kd (key:Int) (l:List Int) (n:Int):Bg key l n default = false:=by
 have h:Dj key l [] = false:=CX (fun h=>by have h1:=h.1.2.1;have h2:=h.2.1;simp at h2;omega)
 show (Fv key l 0 [] 0 [] && decide ((0:Int) = n)) = false
 unfold Fv Ho
 rw [h];rfl
theorem Mt {S:List SlN} {j:Nat} (h:S.length <= j):S.getD j default = default:=by rw [List.getD_eq_getElem?_getD,List.getElem?_eq_none h];rfl
theorem QZ {key n:Int} {l:List Int} {S:List SlN} {j:Nat} (h:Bg key l n (S.getD j default) = true):j < S.length:=by
 rcases Nat.lt_or_ge j S.length with h1 | h1
 ·exact h1
 ·rw [Mt h1,Kd] at h;cases h
theorem Ry {S:List SlN} (h:∀ i,i < S.length -> (S.getD i default).Fits) (i:Nat):(S.getD i default).Fits:=by
 rcases Nat.lt_or_ge i S.length with h1 | h1
 ·exact h i h1
 ·rw [Mt h1];exact ⟨Nat.zero_le _,Nat.zero_le _,fun i hi=>absurd hi (Nat.not_lt_zero _),by unfold I64;decide⟩
noncomputable def VolG.okB (x:VolG):Bool:=volB x.key x.counts x.trusts x.cells x.slots x.count
def VolG.Int64 (x:VolG):Prop:=Cx x.trusts /\ (∀ i,i < x.slots.length -> (x.slots.getD i default).Fits /\ I64 (x.slots.getD i default).mac) /\ I64 x.count
theorem DG (x:VolG) (v:Value) (w:World) (hx:x.Short) (hi:x.Int64) (h:RdG w w.1.size x v):
    Calls prog 25 #[v] w fun e w'=>e = τ (φ x.okB) /\ Below w.1.size w w':=by
 obtain ⟨A,c,B,d,C,e,E,s,rfl,i1,i2,i3,i4,-⟩:=h
 exact Ib x.key A x.counts c B x.trusts d C x.cells e E x.slots s x.count w (by have:=hx.1;unfold maxLen;omega) i1 hx.2.1 i2 hx.2.2.1 i3 hx.2.2.2.1 i4 (fun i h=>(hi.2.1 i h).1)
def NV:Prop:=∀ (x:VolG) (v:Value) (w:World),x.Short -> x.Int64 -> RdG w w.1.size x v ->
 Calls prog 24 #[v] w fun e w'=>e = τ (φ x.okB) /\ Below w.1.size w w'

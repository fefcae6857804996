import Derived.Test.YteoijmejhdocdaaGreatDoorV29
import Derived.Test.YteoijmejhdocdaaGreatDoorProg
import Derived.LaidEql
import Derived.Stop.Asserts
import Derived.RowKitTokens
import Derived.Test.YteoijmejhdocdaaGreatDoorV27
import Derived.Defers
import Derived.Recover
namespace Go.Proofs.YteoijmejhdocdaaGreatDoor.Mx
open Go.ChangeShapes Go.WideShapes Go.ChangeAt Go.RowKit
set_option linter.unusedVariables false
open Go.Lib (hid)
open Go.Proofs.Tryz
set_option maxRecDepth 20000
set_option maxHeartbeats 64000000
open Value renaming int → O, slice → ψ, bool → φ, agg → σ
open IntKind renaming i64 → U
open Ending renaming returned → τ
theorem KF (key:Int) (A:Option Addr) (l:List Int) (cap:Nat) (hcap:l.length <= cap) (s:SlN) (B:Option Addr) (tc:Nat) (C:Option Addr) (cc:Nat) (w:World) (hn:l.length <= 1048576) (hA:Ints w U w.1.size A l) (hs:s.Fits) (hr:SlR w w.1.size B tc C cc s):
    Calls prog 159 #[σ #[O U key,ψ A l.length cap],σ #[O U s.count,ψ B s.trusts.length tc,O U s.mac,ψ C s.cells.length cc]] w fun e w'=>e = τ (φ (fitB key l s.trusts s.cells)) /\ Below w.1.size w w':=by
 have K0:=hid (show Kept w [(w.1.size + 1,91,#[O U s.count,ψ B s.trusts.length tc,O U s.mac,ψ C s.cells.length cc]),(w.1.size,26,#[O U key,ψ A l.length cap])] _ from (((Kept.refl w).put1 _ _ #[O U key,ψ A l.length cap] rfl).put1 _ _ #[O U s.count,ψ B s.trusts.length tc,O U s.mac,ψ C s.cells.length cc] (by simp)))
 have CL:=hid (fun (u:World) (hb:Below w.1.size w u)=>Fe key A C l cap hcap s.cells cc u (by unfold maxLen;omega) ((hA.below hb (lr _)).more hb.size) (by have:=hs.2.1;unfold maxLen;omega) ((hr.2.below hb (lr _)).more hb.size))
 have h1:=hs.1
 have h2:=hs.2.1
 clear hA hn hs hr hcap
 unfold fitB
 have ht:((s.trusts.length:Int) <= 4) ↔ s.trusts.length <= 4:=by omega
 have hte:decide ((s.trusts.length:Int) <= 4) = decide (s.trusts.length <= 4):=decide_eq_decide.2 ht
 by_cases hm:s.cells.length = 0
 ·have hm0:((s.cells.length:Int) == 0) = true:=by rw [hm];rfl
  rw [decide_eq_true hm,Bool.true_or,Bool.true_and,<- hte]
  clear CL hm
  go_enter func159,ntmps159
  obtain ⟨X0,Y0,X1,Y1,-⟩:=K0.out.rd
  have K1:=hid K0.out
  go_wp2_with fail
  go_ret
  exact ⟨by simp,K1.out.1⟩
 ·have hm0:((s.cells.length:Int) == 0) = false:=beq_eq_false_iff_ne.2 (by omega)
  rw [decide_eq_false hm,Bool.false_or]
  generalize Dm key l s.cells = cb at CL |-
  cases cb with
  | false=>
    rw [Bool.false_and]
    go_enter func159,ntmps159
    go_wp2_with fail
    refine (CL.out _ K0.out.1).mono ?_;rintro e uz1 ⟨rfl,bz2⟩
    have hz3:=K0.out.below bz2
    clear bz2
    obtain ⟨X0,Y0,X1,Y1,-⟩:=hz3.rd
    go_wp2_with fail
    go_ret
    exact ⟨by simp <;> omega,hz3.1⟩
  | true=>
    rw [Bool.true_and,<- hte]
    go_enter func159,ntmps159
    go_wp2_with fail
    refine (CL.out _ K0.out.1).mono ?_;rintro e uz1 ⟨rfl,bz2⟩
    have hz3:=K0.out.below bz2
    clear bz2
    obtain ⟨X0,Y0,X1,Y1,-⟩:=hz3.rd
    go_wp2_with fail
    go_ret
    exact ⟨by simp <;> omega,hz3.1⟩
theorem Kj (key:Int) (A:Option Addr) (l:List Int) (cap:Nat) (hcap:l.length <= cap) (p:Nat) (s:SlN) (B:Option Addr) (tc:Nat) (C:Option Addr) (cc:Nat) (w:World) (hn:l.length <= 1048576) (hA:Ints w U w.1.size A l) (hp:Aa w p 26 #[O U key,ψ A l.length cap]) (hs:s.Fits) (hr:SlR w w.1.size B tc C cc s):
    Calls prog 158 #[σ #[O U s.count,ψ B s.trusts.length tc,O U s.mac,ψ C s.cells.length cc],.pointer (some ⟨p,0,none⟩)] w fun e w'=>e = τ (φ (!fitB key l s.trusts s.cells)) /\ Below w.1.size w w':=by
 have K0:=hid (show Kept w [(w.1.size,91,#[O U s.count,ψ B s.trusts.length tc,O U s.mac,ψ C s.cells.length cc])] _ from ((Kept.refl w).put1 _ _ #[O U s.count,ψ B s.trusts.length tc,O U s.mac,ψ C s.cells.length cc] rfl))
 have CL:=hid (fun (u:World) (hb:Below w.1.size w u)=>KF key A l cap hcap s B tc C cc u hn ((hA.below hb (lr _)).more hb.size) hs ⟨(hr.1.below hb (lr _)).more hb.size,(hr.2.below hb (lr _)).more hb.size⟩)
 have HP:=hid hp
 generalize fitB key l s.trusts s.cells = b at CL |-
 clear hA hn hs hr hcap hp
 go_enter func158,ntmps158
 have k0:=K0.out
 obtain ⟨X0,Y0,-⟩:=k0.rd
 have hc:=(HP.out.below k0.1 HP.out.lt).cell
 have K0:=hid k0
 clear k0
 go_wp2_with fail
 refine (CL.out _ K0.out.1).mono ?_;rintro e w1 ⟨rfl,b1⟩
 have K1:=hid (K0.out.below b1)
 clear b1
 go_wp2_with fail
 go_ret
 exact ⟨rfl,K1.out.1⟩
def Ou (key:Int) (l:List Int) (S:List SlN) (k:Nat):Prop:=∀ i,i < k -> fitB key l (S.getD i default).trusts (S.getD i default).cells = true
open Classical in
noncomputable def Iz (key:Int) (l:List Int) (S:List SlN):Bool:=decide (Ou key l S S.length)
open Classical in
theorem Mr {key:Int} {l:List Int} {S:List SlN} (h:Ou key l S S.length):Iz key l S = true:=by unfold Iz;exact decide_eq_true h
open Classical in
theorem Kx {key:Int} {l:List Int} {S:List SlN} (h:¬ Ou key l S S.length):Iz key l S = false:=by unfold Iz;exact decide_eq_false h
theorem OB (key:Int) (A:Option Addr) (l:List Int) (cap:Nat) (hcap:l.length <= cap) (p:Nat) (E:Option Addr) (S:List SlN) (sc:Nat) (w:World) (hn:l.length <= 1048576) (hA:Ints w U w.1.size A l) (hp:Aa w p 26 #[O U key,ψ A l.length cap]) (hS:S.length <= 1048576) (hE:DM w w.1.size E S) (hF:∀ i,i < S.length -> (S.getD i default).Fits):
    Calls prog 220 #[ψ E S.length sc,.func (.func 158) #[] #[.pointer (some ⟨p,0,none⟩)]] w fun e w'=>(∃ i:Int,e = τ (O U i) /\ decide (0 <= i) = !Iz key l S) /\ Below w.1.size w w':=by
 have C:=hid (fun (s:SlN) (B:Option Addr) (tc:Nat) (C:Option Addr) (cc:Nat) (hs:s.Fits) (hr:SlR w w.1.size B tc C cc s) (u:World) (hb:Below w.1.size w u)=>Kj key A l cap hcap p s B tc C cc u hn ((hA.below hb (lr _)).more hb.size) (hp.below hb hp.lt) hs ⟨(hr.1.below hb (lr _)).more hb.size,(hr.2.below hb (lr _)).more hb.size⟩)
 have HE:=hid hE
 have HF:=hid hF
 clear hA hE hF hp hcap hn
 go_enter func220,ntmps220
 go_wp2_with fail
 go_loopw [8] (fun i wr=>∃ k:Nat,k <= S.length /\ i = O U k /\ Ou key l S k /\ Below w.1.size w wr) (fun i _=>S.length - (intOf i).toNat)
 case atStart=>exact ⟨0,Nat.zero_le _,rfl,fun i hi=>absurd hi (by omega),Below.refl _ _⟩
 case round=>
  obtain ⟨k,hk,rfl,hup,hz⟩:=hrel
  have HU:=hid hup
  have HZ:=hid hz
  clear hup
  by_cases hlt:k < S.length
  ·obtain ⟨b,off,rfl,hb,B,tc,C1,cc,c0,c1,c2,c3,hr⟩:=HE.out k hlt
   have hlt':(k:Int) < S.length:=by omega
   have hk0:(0:Int) <= k:=by omega
   have d0:=(hz.cell (p:=⟨b,off + k * 4,none⟩) hb).trans c0
   have d1:=(hz.cell (p:=⟨b,off + k * 4 + 1,none⟩) hb).trans c1
   have d2:=(hz.cell (p:=⟨b,off + k * 4 + 2,none⟩) hb).trans c2
   have d3:=(hz.cell (p:=⟨b,off + k * 4 + 3,none⟩) hb).trans c3
   clear hz c0 c1 c2 c3
   have TB:=hid (C.out (S.getD k default) B tc C1 cc (HF.out k hlt) hr)
   by_cases hok:fitB key l (S.getD k default).trusts (S.getD k default).cells = true
   ·have NX:=hid (show Ou key l S (k + 1) from fun i hi=>by
      rcases Nat.lt_or_ge i k with h | h
      ·exact HU.out i h
      ·obtain rfl:i = k:=by omega
       exact hok)
    rw [hok] at TB
    clear hok HU hr
    generalize S.getD k default = t at TB d0 d1 d2 d3
    go_wp2_with fail
    refine (TB.out _ HZ.out).mono ?_;rintro e w1 ⟨rfl,b1⟩
    have H1:=hid (HZ.out.trans (b1.mono HZ.out.size))
    clear b1 d0 d1 d2 d3
    go_wp2_with fail
    go_roundw
    case rel=>exact ⟨k + 1,by omega,by go_num,NX.out,H1.out⟩
    case measure=>simp [intOf];omega
   ·have HX:=hid (show decide ((0:Int) <= k) = !Iz key l S by rw [decide_eq_true hk0,Kx (fun h=>hok (h k hlt))];rfl)
    rw [show fitB key l (S.getD k default).trusts (S.getD k default).cells = false from by simpa using hok] at TB
    clear hok HU hr
    generalize S.getD k default = t at TB d0 d1 d2 d3
    go_wp2_with fail
    refine (TB.out _ HZ.out).mono ?_;rintro e w1 ⟨rfl,b1⟩
    have H1:=hid (HZ.out.trans (b1.mono HZ.out.size))
    clear b1 d0 d1 d2 d3
    go_wp2_with fail
    go_ret
    exact ⟨⟨_,rfl,HX.out⟩,H1.out⟩
  ·have hk':k = S.length:=by omega
   subst hk'
   have HX:=hid (show decide ((0:Int) <= -1) = !Iz key l S by rw [Mr HU.out];rfl)
   clear HU hz
   go_wp2_with fail
   go_ret
   exact ⟨⟨_,rfl,HX.out⟩,HZ.out⟩
theorem Ks (key:Int) (A:Option Addr) (l:List Int) (cap:Nat) (hcap:l.length <= cap) (p:Nat) (E:Option Addr) (S:List SlN) (sc:Nat) (w:World) (hn:l.length <= 1048576) (hA:Ints w U w.1.size A l) (hp:Aa w p 26 #[O U key,ψ A l.length cap]) (hS:S.length <= 1048576) (hE:DM w w.1.size E S) (hF:∀ i,i < S.length -> (S.getD i default).Fits):
    Calls prog 157 #[ψ E S.length sc,.func (.func 158) #[] #[.pointer (some ⟨p,0,none⟩)]] w fun e w'=>e = τ (φ (!Iz key l S)) /\ Below w.1.size w w':=by
 have C:=hid (OB key A l cap hcap p E S sc w hn hA hp hS hE hF)
 generalize (!Iz key l S) = b at C
 clear hA hE hF hp hcap hn
 go_enter func157,ntmps157
 go_wp2_with fail
 refine C.out.mono ?_;rintro e w1 ⟨⟨i,rfl,hi⟩,b1⟩
 have B1:=hid b1
 clear b1 C
 by_cases h0:0 <= i
 ·rw [decide_eq_true h0] at hi
  subst hi
  go_wp2_with fail
  go_ret
  exact ⟨rfl,B1.out⟩
 ·rw [decide_eq_false h0] at hi
  subst hi
  have hneg:decide (0 <= i) = false:=decide_eq_false h0
  clear h0
  go_wp2_with fail
  go_ret
  exact ⟨by rw [<- hneg];rfl,B1.out⟩
theorem Lw (key:Int) (A:Option Addr) (l:List Int) (cap:Nat) (hcap:l.length <= cap) (E:Option Addr) (S:List SlN) (sc:Nat) (w:World) (hn:l.length <= 1048576) (hA:Ints w U w.1.size A l) (hS:S.length <= 1048576) (hE:DM w w.1.size E S) (hF:∀ i,i < S.length -> (S.getD i default).Fits):
    Calls prog 77 #[σ #[O U key,ψ A l.length cap],ψ E S.length sc] w fun e w'=>e = τ (φ (decide (S.length = 2) && Iz key l S)) /\ Below w.1.size w w':=by
 have hmf:∀ (fn:Fn) (first cap:Array Value) (w:World),(Instr.makeFunc fn first cap).run prog w = .ok (.func fn first cap) w:=fun _ _ _ _=>rfl
 have K0:=hid (show Kept w [(w.1.size,26,#[O U key,ψ A l.length cap])] _ from ((Kept.refl w).put1 _ _ #[O U key,ψ A l.length cap] rfl))
 have CO:=hid (fun (u:World) (hk:Kept w [(w.1.size,26,#[O U key,ψ A l.length cap])] u)=>Ks key A l cap hcap w.1.size E S sc u hn ((hA.below hk.1 (lr _)).more hk.1.size) (hk.at_ (by simp)) hS (fun i hi=>by
  obtain ⟨b,off,e,hb,B,tc,C,cc,c0,c1,c2,c3,hr⟩:=hE i hi
  exact ⟨b,off,e,Nat.lt_of_lt_of_le hb hk.1.size,B,tc,C,cc,(hk.1.cell (p:=⟨b,off + i * 4,none⟩) hb).trans c0,(hk.1.cell (p:=⟨b,off + i * 4 + 1,none⟩) hb).trans c1,(hk.1.cell (p:=⟨b,off + i * 4 + 2,none⟩) hb).trans c2,(hk.1.cell (p:=⟨b,off + i * 4 + 3,none⟩) hb).trans c3,(hr.1.below hk.1 (lr _)).more hk.1.size,(hr.2.below hk.1 (lr _)).more hk.1.size⟩) hF)
 clear hA hE hF hcap hn
 by_cases h2:S.length = 2
 ·have hb:((S.length:Int) == 2) = true:=by rw [h2];rfl
  rw [decide_eq_true h2,Bool.true_and]
  generalize Iz key l S = b at CO |-
  clear h2
  go_enter func77,ntmps77
  have k0:=K0.out
  clear K0
  obtain ⟨X0,Y0,-⟩:=k0.rd
  have K0:=hid k0
  clear k0
  go_wp2_with fail
  refine (CO.out _ K0.out).mono ?_;rintro e w1 ⟨rfl,b1⟩
  have K1:=hid (K0.out.below b1)
  clear b1
  go_wp2_with fail
  go_ret
  exact ⟨by simp,K1.out.1⟩
 ·have hb:((S.length:Int) == 2) = false:=beq_eq_false_iff_ne.2 (by omega)
  rw [decide_eq_false h2,Bool.false_and]
  clear CO h2
  go_enter func77,ntmps77
  have k0:=K0.out
  clear K0
  obtain ⟨X0,Y0,-⟩:=k0.rd
  have K0:=hid k0
  clear k0
  go_wp2_with fail
  go_ret
  exact ⟨rfl,K0.out.1⟩
theorem QP {key:Int} {l:List Int} {S:List SlN} (h:S.length = 2):Iz key l S = (fitB key l (S.getD 0 default).trusts (S.getD 0 default).cells && fitB key l (S.getD 1 default).trusts (S.getD 1 default).cells):=by
 cases h0:fitB key l (S.getD 0 default).trusts (S.getD 0 default).cells with
 | false=>exact Kx (fun hf=>by rw [hf 0 (by omega)] at h0;cases h0)
 | true=>
   cases h1:fitB key l (S.getD 1 default).trusts (S.getD 1 default).cells with
   | false=>exact Kx (fun hf=>by rw [hf 1 (by omega)] at h1;cases h1)
   | true=>
     refine Mr (fun i hi=>?_)
     rw [h] at hi
     obtain rfl | rfl:i = 0 \/ i = 1:=by omega
     ·exact h0
     ·exact h1
theorem Ik (key:Int) (A:Option Addr) (l:List Int) (cap:Nat) (hcap:l.length <= cap) (B:Option Addr) (L:List Tru) (tc:Nat) (C:Option Addr) (M:List Ce) (cc:Nat) (E:Option Addr) (S:List SlN) (sc:Nat) (cnt:Int) (w:World)
    (hn:l.length <= 1048576) (hA:Ints w U w.1.size A l) (hL:L.length <= 1048576) (hB:Trs w w.1.size B L) (hM:M.length <= 1048576) (hC:Cls w w.1.size C M) (hS:S.length <= 1048576) (hE:DM w w.1.size E S) (hF:∀ i,i < S.length -> (S.getD i default).Fits) (hcnt:I64 cnt):
    Calls prog 24 #[σ #[O U key,ψ A l.length cap,ψ B L.length tc,ψ C M.length cc,ψ E S.length sc,O U cnt]] w fun e w'=>e = τ (φ (volB key l L M S cnt)) /\ Below w.1.size w w':=by
 have K0:=hid (show Kept w [(w.1.size,31,#[O U key,ψ A l.length cap,ψ B L.length tc,ψ C M.length cc,ψ E S.length sc,O U cnt])] _ from ((Kept.refl w).put1 _ _ #[O U key,ψ A l.length cap,ψ B L.length tc,ψ C M.length cc,ψ E S.length sc,O U cnt] rfl))
 have TS:=hid (fun (u:World) (hb:Below w.1.size w u)=>Gc key A B l cap hcap L tc u hn ((hA.below hb (lr _)).more hb.size) (by unfold maxLen;omega) ((hB.below hb (lr _)).more hb.size))
 have CL:=hid (fun (u:World) (hb:Below w.1.size w u)=>Fe key A C l cap hcap M cc u (by unfold maxLen;omega) ((hA.below hb (lr _)).more hb.size) (by unfold maxLen;omega) ((hC.below hb (lr _)).more hb.size))
 have SF:=hid (fun (u:World) (hk:Below w.1.size w u)=>Lw key A l cap hcap E S sc u hn ((hA.below hk (lr _)).more hk.size) hS (fun i hi=>by
  obtain ⟨b,off,e,hb,B,tc,C,cc,c0,c1,c2,c3,hr⟩:=hE i hi
  exact ⟨b,off,e,Nat.lt_of_lt_of_le hb hk.size,B,tc,C,cc,(hk.cell (p:=⟨b,off + i * 4,none⟩) hb).trans c0,(hk.cell (p:=⟨b,off + i * 4 + 1,none⟩) hb).trans c1,(hk.cell (p:=⟨b,off + i * 4 + 2,none⟩) hb).trans c2,(hk.cell (p:=⟨b,off + i * 4 + 3,none⟩) hb).trans c3,(hr.1.below hk (lr _)).more hk.size,(hr.2.below hk (lr _)).more hk.size⟩) hF)
 have IN:=hid (fun (u:World)=>FQ cnt u hcnt)
 have hv:volB key l L M S cnt = (Dj key l L && (Dm key l M && ((decide (S.length = 2) && Iz key l S) && decide (0 <= cnt /\ cnt <= 10000)))):=by
  unfold volB
  by_cases h2:S.length = 2
  ·rw [QP h2];simp only [Bool.and_assoc]
  ·rw [decide_eq_false h2];simp
 rw [hv]
 clear hv hA hB hC hE hF hcap hn hL hM hS hcnt
 generalize Dj key l L = ts at TS |-
 generalize Dm key l M = cs at CL |-
 generalize (decide (S.length = 2) && Iz key l S) = fs at SF |-
 generalize decide (0 <= cnt /\ cnt <= 10000) = ic at IN |-
 cases ts with
 | false=>
   clear CL SF IN
   go_enter func24,ntmps24
   go_wp2_with fail
   refine (TS.out _ K0.out.1).mono ?_;rintro e uz1 ⟨rfl,bz2⟩
   have hz3:=K0.out.below bz2
   clear bz2
   obtain ⟨X0,Y0,-⟩:=hz3.rd
   have K9:=hid hz3
   clear hz3 X0 Y0
   go_wp2_with fail
   go_ret
   exact ⟨by simp,K9.out.1⟩
 | true=>
   cases cs with
   | false=>
     clear SF IN
     go_enter func24,ntmps24
     go_wp2_with fail
     refine (TS.out _ K0.out.1).mono ?_;rintro e uz1 ⟨rfl,bz2⟩
     have hz3:=K0.out.below bz2
     clear bz2
     obtain ⟨X0,Y0,-⟩:=hz3.rd
     go_wp2_with fail
     refine (CL.out _ hz3.1).mono ?_;rintro e uz4 ⟨rfl,bz5⟩
     have hz6:=hz3.below bz5
     clear bz5 hz3 X0 Y0
     obtain ⟨X0,Y0,-⟩:=hz6.rd
     have K9:=hid hz6
     clear hz6 X0 Y0
     go_wp2_with fail
     go_ret
     exact ⟨by simp,K9.out.1⟩
   | true=>
     cases fs with
     | false=>
       clear IN
       go_enter func24,ntmps24
       go_wp2_with fail
       refine (TS.out _ K0.out.1).mono ?_;rintro e uz1 ⟨rfl,bz2⟩
       have hz3:=K0.out.below bz2
       clear bz2
       obtain ⟨X0,Y0,-⟩:=hz3.rd
       go_wp2_with fail
       refine (CL.out _ hz3.1).mono ?_;rintro e uz4 ⟨rfl,bz5⟩
       have hz6:=hz3.below bz5
       clear bz5 hz3 X0 Y0
       obtain ⟨X0,Y0,-⟩:=hz6.rd
       go_wp2_with fail
       refine (SF.out _ hz6.1).mono ?_;rintro e uz7 ⟨rfl,bz8⟩
       have hz9:=hz6.below bz8
       clear bz8 hz6 X0 Y0
       obtain ⟨X0,Y0,-⟩:=hz9.rd
       have K9:=hid hz9
       clear hz9 X0 Y0
       go_wp2_with fail
       go_ret
       exact ⟨by simp,K9.out.1⟩
     | true=>
       go_enter func24,ntmps24
       go_wp2_with fail
       refine (TS.out _ K0.out.1).mono ?_;rintro e uz1 ⟨rfl,bz2⟩
       have hz3:=K0.out.below bz2
       clear bz2
       obtain ⟨X0,Y0,-⟩:=hz3.rd
       go_wp2_with fail
       refine (CL.out _ hz3.1).mono ?_;rintro e uz4 ⟨rfl,bz5⟩
       have hz6:=hz3.below bz5
       clear bz5 hz3 X0 Y0
       obtain ⟨X0,Y0,-⟩:=hz6.rd
       go_wp2_with fail
       refine (SF.out _ hz6.1).mono ?_;rintro e uz7 ⟨rfl,bz8⟩
       have hz9:=hz6.below bz8
       clear bz8 hz6 X0 Y0
       obtain ⟨X0,Y0,-⟩:=hz9.rd
       go_wp2_with fail
       refine (IN.out _).mono ?_;rintro e w' ⟨rfl,rfl⟩
       have K9:=hid hz9
       clear hz9 X0 Y0
       go_wp2_with fail
       go_ret
       exact ⟨by simp,K9.out.1⟩
theorem JU:NV:=by
 intro x v w hx hi h
 obtain ⟨A,c,B,d,C,e,E,s,rfl,i1,i2,i3,i4,i5,-⟩:=h
 exact Ik x.key A x.counts c i5 B x.trusts d C x.cells e E x.slots s x.count w hx.1 i1 hx.2.1 i2 hx.2.2.1 i3 hx.2.2.2.1 i4 (fun i h=>(hi.2.1 i h).1) hi.2.2
theorem Px {key:Int} {l:List Int} {L:List Tru} (h:Dj key l L = true):Ba key l L:=by
 by_cases e:Ba key l L
 ·exact e
 ·rw [CX e] at h;cases h
theorem Mv {key:Int} {l:List Int} {L:List Ce} (h:Dm key l L = true):CP key l L:=by
 by_cases e:CP key l L
 ·exact e
 ·rw [Gd e] at h;cases h
theorem Qf {key:Int} {l:List Int} {L:List Tru} {M:List Ce} (h:fitB key l L M = true):(M = [] \/ CP key l M) /\ L.length <= 4:=by
 unfold fitB at h
 rw [Bool.and_eq_true,Bool.or_eq_true] at h
 obtain ⟨h1,h2⟩:=h
 refine ⟨?_,of_decide_eq_true h2⟩
 rcases h1 with h1 | h1
 ·exact .inl (List.length_eq_zero_iff.1 (of_decide_eq_true h1))
 ·exact .inr (Mv h1)
theorem VolG.inv {x:VolG} (hi:x.Int64) (h:x.okB = true):x.slots.length = 2 /\ x.toN.Inv:=by
 unfold VolG.okB volB at h
 rw [Bool.and_eq_true,Bool.and_eq_true,Bool.and_eq_true,Bool.and_eq_true,Bool.and_eq_true] at h
 obtain ⟨h1,h2,h3,h4,h5,h6⟩:=h
 have h3:=of_decide_eq_true h3
 have h1:=Px h1
 obtain ⟨a1,a2⟩:=Qf h4
 obtain ⟨b1,b2⟩:=Qf h5
 obtain ⟨c1,c2⟩:=hi.2.1 0 (by omega)
 obtain ⟨d1,d2⟩:=hi.2.1 1 (by omega)
 exact ⟨h3,h1.1,h1,Mv h2,of_decide_eq_true h6,⟨a1,a2,c1.2.2.1,c1.2.2.2,c2⟩,⟨b1,b2,d1.2.2.1,d1.2.2.2,d2⟩⟩
theorem RdG.two {w:World} {Bd:Nat} {x:VolG} {v:Value} (h:RdG w Bd x v) (h2:x.slots.length = 2):
    ∃ A c B d C e b off s,v = σ #[O U x.toN.key,ψ A x.toN.counts.length c,ψ B x.toN.trusts.length d,ψ C x.toN.cells.length e,ψ (some ⟨b,off,none⟩) 2 s,O U x.toN.count] /\ Ints w U Bd A x.toN.counts /\ Trs w Bd B x.toN.trusts /\ Cls w Bd C x.toN.cells /\ b < Bd /\ Bq w Bd b off x.toN.s0 /\ Bq w Bd b (off + 4) x.toN.s1 /\ x.toN.counts.length <= c:=by
 obtain ⟨A,c,B,d,C,e,E,s,rfl,i1,i2,i3,i4,i5,-⟩:=h
 obtain ⟨b,off,rfl,hb,h0⟩:=i4 0 (by omega)
 obtain ⟨b',off',e1,-,h1⟩:=i4 1 (by omega)
 simp only [Option.some.injEq,Addr.mk.injEq] at e1
 obtain ⟨rfl,rfl,-⟩:=e1
 rw [h2]
 exact ⟨A,c,B,d,C,e,b,off,s,rfl,i1,i2,i3,hb,h0,h1,i5⟩
def Ans2 (b:World) (r:Option VolN × Int) (e:Ending) (w':World):Prop:=∃ cs,e = τ (.tuple #[σ cs,O U r.2]) /\ VolQ w' b.1.size r.1 (σ cs) /\ Below b.1.size b w'
open Go.RowKit Go.Extern.Stop Go.Stop Go.Extern
theorem RH {w:World} {a:Addr} {v:Value} (h:w.cell? a = some v):a.block < w.1.size:=by
 rcases Nat.lt_or_ge a.block w.1.size with h' | h'
 ·exact h'
 ·simp [World.cell?,Array.getElem?_eq_none h'] at h
-- codeOf: of the sentinels,by their places
theorem Nx {P:Program} {ρ:Operand -> Value} {o:Oper} {t:TypeId} {x y:Operand} {w:World} {K:Value -> World -> Prop} {a:Addr} {z:Value} {n:Int} (hc:w.cell? a = some z) (hf:w.frozen? a = false) (hop:o.op = .store t x y) (hx:ρ x = .pointer (some a)) (hy:ρ y = O U n) (hi:(P.info? t).map (·.size) = some 1)
    (h:K undef (w.setCell a (O U n))):Bt P ((execOp ρ o).run P w) K:=by
 have e2:(execOp ρ o).run P w = .ok .skip (w.setCell a (O U n)):=by
  unfold execOp
  rw [hop]
  obtain ⟨i,hi1,hi2⟩:=Option.map_eq_some_iff.1 hi
  simp [hx,hy,Instr.storeAt,Instr.sureAddr,storeVar,sizeOf,typeInfo,hi1,hi2,Value.cells,storeCells,go_sem,hc,hf,Addr.add]
 rw [e2]
 exact h
theorem VolO.drew {u:World} {base:Nat} {x:VolN} {v:Value} (h:VolO u base x v):VolO u.drew base x v:=h.below ⟨rfl,rfl,rfl,lr _,fun _ _=>rfl⟩
def KV (b:World) (L:List Box) (base:Nat) (x:VolN) (v:Value) (u:World):Prop:=Kept b L u /\ VolO u base x v
def BO (b:Nat) (g:Option Nat) (u v:World):Prop:=v.os = u.os /\ v.tape = u.tape /\ v.output = u.output /\ u.1.size <= v.1.size /\ ∀ k,k < b -> g ≠ some k -> v.1[k]? = u.1[k]?
theorem BO.trans {b:Nat} {g:Option Nat} {u v w:World} (h:BO b g u v) (h':BO b g v w):BO b g u w:=
 ⟨h'.1.trans h.1,h'.2.1.trans h.2.1,h'.2.2.1.trans h.2.2.1,Nat.le_trans h.2.2.2.1 h'.2.2.2.1,fun k hk hr=>(h'.2.2.2.2 k hk hr).trans (h.2.2.2.2 k hk hr)⟩
theorem BO.of {b:Nat} {g:Option Nat} {u v:World} (h:Below b u v):BO b g u v:=⟨h.os,h.tape,h.output,h.size,fun k hk _=>h.block k hk⟩
theorem BO.none {b:Nat} {u v:World} (h:BO b none u v):Below b u v:=⟨h.1,h.2.1,h.2.2.1,h.2.2.2.1,fun k hk=>h.2.2.2.2 k hk (by simp)⟩
def GW (w:World) (g:Option Nat) (r:Option VolN × Int × Int) (e:Ending) (w':World):Prop:=
 ∃ cs,e = τ (.tuple #[σ cs,O U r.2.2]) /\ VolQ w' w.1.size r.1 (σ cs) /\ BO w.1.size g w w' /\ ∀ k,g = some k -> Aa w' k 2 #[O U r.2.1]
theorem Ie (w:World):Calls prog 52 #[φ true] w fun e w'=>e = τ (.tuple #[]) /\ w = w':=by
 go_enter func52,ntmps52
 go_wp2_with fail
 go_end0
 exact ⟨rfl,rfl⟩
theorem Gx (p:Addr) (x:Value) (u:TypeId) (pv:Value) (older:List PanicEntry) (w:World) (hc:w.cell? p = some x) (hz:w.frozen? p = false):
    CallsD prog 124 #[.pointer (some p)] (.panicking ({ v:=.iface u pv,recovered:=false } :: older)) w fun e u' w'=>
     e = τ (.tuple #[]) /\ u' = .panicking ({ v:=.iface u pv,recovered:=true } :: older) /\ w' = w.setCell p (O U 1):=by
 refine callsD_of_wpS func124 rfl fun c₀ cs hu=>?_
 apply wpS_seq
 apply wpS_region
 simp [wpOpsS,go_sem,recoverD,hu,ntmps124,Exit.thenS]
 refine wpS_cond (t:=true) (by simp [Act.eval,Array.replicate]) ?_
 simp only [if_true]
 apply wpS_region
 simp [wpOpsS,go_sem,hc,hz,bodyPostS,results,results124]
theorem PJ (p:Addr) (w:World):
    CallsD prog 124 #[.pointer (some p)] .returning w fun e u' w'=>e = τ (.tuple #[]) /\ u' = .returning /\ w' = w:=by
 refine callsD_of_wpS func124 rfl fun c₀ cs hu=>?_
 apply wpS_seq
 apply wpS_region
 simp [wpOpsS,go_sem,recoverD,hu,ntmps124,Exit.thenS]
 refine wpS_cond (t:=false) (by simp [Act.eval,Array.replicate]) ?_
 simp only [Bool.false_eq_true,if_false]
 refine wpS_of_wp (wp_skip ?_)
 cases c₀
 simp_all [bodyPostS,results,results124]
theorem RdG.has {w:World} {x:VolN} {A:Option Addr} {c:Nat} {B:Option Addr} {d:Nat} {C:Option Addr} {e b off s:Nat} (h:Ints w U w.1.size A x.counts /\ Trs w w.1.size B x.trusts /\ Cls w w.1.size C x.cells /\ b < w.1.size /\ Bq w w.1.size b off x.s0 /\ Bq w w.1.size b (off + 4) x.s1) {u:World} (hb:Below w.1.size w u):
    Ints u U u.1.size A x.counts /\ Trs u u.1.size B x.trusts /\ Cls u u.1.size C x.cells /\ b < u.1.size /\ Bq u u.1.size b off x.s0 /\ Bq u u.1.size b (off + 4) x.s1:=
 ⟨(h.1.below hb (lr _)).more hb.size,(h.2.1.below hb (lr _)).more hb.size,(h.2.2.1.below hb (lr _)).more hb.size,Nat.lt_of_lt_of_le h.2.2.2.1 hb.size,(h.2.2.2.2.1.below hb (lr _) h.2.2.2.1).more hb.size,(h.2.2.2.2.2.below hb (lr _) h.2.2.2.1).more hb.size⟩
theorem BO.gb {b g:Nat} {u v:World} (h:u.grownBy v (some g)) (hb:b <= u.1.size):BO b (some g) u v:=
 ⟨h.os,h.tape,h.output,h.size,fun k hk hr=>h.block k (Nat.lt_of_lt_of_le hk hb) (fun e=>hr e.symm)⟩
theorem VolO.lits {u:World} {b:Nat} {x:VolN} {cs:Array Value} (h:VolO u b x (σ cs)):∃ A c B d C e g,cs = #[O U x.key,ψ A x.counts.length c,ψ B x.trusts.length d,ψ C x.cells.length e,ψ (some ⟨g,0,none⟩) 2 2,O U x.count]:=by
 obtain ⟨A,c,B,d,C,e,g,q0,q1,q2,q3,q4,q5,q6,q7,e9,-⟩:=h
 injection e9 with e9
 exact ⟨A,c,B,d,C,e,g,e9⟩
theorem VolQ.lits {u:World} {b:Nat} {o:Option VolN} {cs:Array Value} (h:VolQ u b o (σ cs)):∃ k A n0 c B n1 d C n2 e E n3 f m,cs = #[O U k,ψ A n0 c,ψ B n1 d,ψ C n2 e,ψ E n3 f,O U m]:=by
 cases o with
 | none=>
   have e:(Value.agg cs) = σ #[O U 0,ψ none 0 0,ψ none 0 0,ψ none 0 0,ψ none 0 0,O U 0]:=h
   injection e with e
   exact ⟨_,_,_,_,_,_,_,_,_,_,_,_,_,_,e⟩
 | some x=>
   obtain ⟨A,c,B,d,C,e,g,e9⟩:=VolO.lits h
   exact ⟨_,_,_,_,_,_,_,_,_,_,_,_,_,_,e9⟩
theorem VolQ.out {u u':World} {b p:Nat} {o:Option VolN} {v:Value} (h:VolQ u b o v) (hg:u.grownBy u' (some p)) (hp:p < b):VolQ u' b o v:=by
 cases o with
 | none=>exact h
 | some x=>exact VolO.out h hg hp
theorem VolQ.mono {u:World} {b b':Nat} {o:Option VolN} {v:Value} (h:VolQ u b o v) (hb:b' <= b):VolQ u b' o v:=by
 cases o with
 | none=>exact h
 | some x=>exact VolO.mono h hb
open Go.RowKit

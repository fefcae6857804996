import Derived.Test.YteoijmejhdocdaaGreatDoorV04
import Derived.Deep.OwnRows
import Derived.Deep.RegionHeld3
namespace Go.Proofs.YteoijmejhdocdaaGreatDoor.Mx
open Go.ChangeShapes Go.WideShapes Go.ChangeAt Go.RowKit
set_option linter.unusedVariables false
open Go.Lib (hid)
open Go.Proofs.Tryz
set_option maxRecDepth 20000
set_option maxHeartbeats 64000000
open Value renaming int → O, slice → ψ, bool → φ, agg → σ
open IntKind renaming i64 → U
open Ending renaming returned → τ
theorem Is (c:Int) (w:World) (h0:1 <= c) (h1:c <= 8):
    Calls prog 137 #[O U c] w fun e w'=>e = τ (φ false) /\ w = w':=by
 have h2:¬ c < 1:=by omega
 have h3:¬ 8 < c:=by omega
 clear h0 h1
 go_enter func137,ntmps137
 go_wp2
 go_ret
 exact ⟨rfl,rfl⟩
theorem LL (c:Int) (w:World) (h:c < 1 \/ 8 < c):
    Calls prog 137 #[O U c] w fun e w'=>e = τ (φ true) /\ w = w':=by
 by_cases h0:c < 1
 ·clear h
  go_enter func137,ntmps137
  go_wp2
  go_ret
  exact ⟨rfl,rfl⟩
 ·have h1:8 < c:=by omega
  clear h
  go_enter func137,ntmps137
  go_wp2
  go_ret
  exact ⟨rfl,rfl⟩
theorem Lx {l:List Int} (h:¬ AL l):∃ i,i < l.length /\ (l.getD i 0 < 1 \/ 8 < l.getD i 0):=by
 refine Classical.byContradiction fun hn=>h fun i hi=>?_
 refine Classical.byContradiction fun hc=>hn ⟨i,hi,by omega⟩
theorem Pn (A:Option Addr) (l:List Int) (cap B:Nat) (w:World) (hn:l.length <= maxLen) (hA:Ints w U B A l) (hf:AL l):
    Calls prog 209 #[ψ A l.length cap,.func (.func 137) #[] #[]] w fun e w'=>e = τ (O U (-1)) /\ w = w':=by
 unfold maxLen at hn
 have C:=hid (fun c w (h:1 <= c /\ c <= 8)=>Is c w h.1 h.2)
 go_enter func209,ntmps209
 go_wp2
 go_loop [8] (fun i=>∃ k:Nat,k <= l.length /\ i = O U k) (fun i=>l.length - (intOf i).toNat)
 case atStart=>exact ⟨0,Nat.zero_le _,rfl⟩
 case round=>
  obtain ⟨k,hk,rfl⟩:=hrel
  by_cases hlt:k < l.length
  ·obtain ⟨b,off,rfl,hb,hc⟩:=hA k hlt
   have hv:=hid (hf k hlt)
   generalize l.getD k 0 = v at hc hv
   clear hA hf
   go_wp2_with fail
   refine (C.out _ _ hv.out).mono ?_;rintro e w' ⟨rfl,rfl⟩
   go_wp2_with fail
   go_round
   case rel=>exact ⟨k + 1,by omega,by go_num⟩
   case measure=>simp [intOf];omega
  ·clear hA hf
   go_wp2
   go_ret
   exact ⟨rfl,rfl⟩
theorem PV (A:Option Addr) (l:List Int) (cap B:Nat) (w:World) (hn:l.length <= maxLen) (hA:Ints w U B A l) (hf:¬ AL l):
    Calls prog 209 #[ψ A l.length cap,.func (.func 137) #[] #[]] w fun e w'=>∃ i:Nat,e = τ (O U i) /\ i < maxLen /\ w = w':=by
 unfold maxLen at *
 obtain ⟨j,hj,hjv⟩:=Lx hf
 clear hf
 have C:=hid (fun c w (h:1 <= c /\ c <= 8)=>Is c w h.1 h.2)
 have D:=hid (fun c w (h:c < 1 \/ 8 < c)=>LL c w h)
 have HJ:=hid hjv
 clear hjv
 go_enter func209,ntmps209
 go_wp2
 go_loop [8] (fun i=>∃ k:Nat,k <= j /\ i = O U k) (fun i=>l.length - (intOf i).toNat)
 case atStart=>exact ⟨0,Nat.zero_le _,rfl⟩
 case round=>
  obtain ⟨k,hk,rfl⟩:=hrel
  have hlt:k < l.length:=by omega
  obtain ⟨b,off,rfl,hb,hc⟩:=hA k hlt
  clear hA
  by_cases hbad:l.getD k 0 < 1 \/ 8 < l.getD k 0
  ·have hv:=hid hbad
   clear hbad HJ
   generalize l.getD k 0 = v at hc hv
   go_wp2_with fail
   refine (D.out _ _ hv.out).mono ?_;rintro e w' ⟨rfl,rfl⟩
   go_wp2_with fail
   go_ret
   exact ⟨k,rfl,by omega,rfl⟩
  ·have hkj:k < j:=by
     rcases Nat.lt_or_ge k j with h | h
     ·exact h
     ·obtain rfl:k = j:=by omega
      exact absurd HJ.out hbad
   have hv:=hid (show 1 <= l.getD k 0 /\ l.getD k 0 <= 8 by omega)
   clear hbad HJ
   generalize l.getD k 0 = v at hc hv
   go_wp2_with fail
   refine (C.out _ _ hv.out).mono ?_;rintro e w' ⟨rfl,rfl⟩
   go_wp2_with fail
   go_round
   case rel=>exact ⟨k + 1,by omega,by go_num⟩
   case measure=>simp [intOf];omega
theorem LQ (A:Option Addr) (l:List Int) (cap B:Nat) (w:World) (hn:l.length <= maxLen) (hA:Ints w U B A l) (hf:AL l):
    Calls prog 136 #[ψ A l.length cap,.func (.func 137) #[] #[]] w fun e w'=>e = τ (φ false) /\ w = w':=by
 have C:=hid (Pn A l cap B w hn hA hf)
 clear hA hf
 unfold maxLen at hn
 go_enter func136,ntmps136
 go_wp2_with fail
 refine C.out.mono ?_;rintro e w' ⟨rfl,rfl⟩
 go_wp2_with fail
 go_ret
 exact ⟨rfl,rfl⟩
theorem Mk (A:Option Addr) (l:List Int) (cap B:Nat) (w:World) (hn:l.length <= maxLen) (hA:Ints w U B A l) (hf:¬ AL l):
    Calls prog 136 #[ψ A l.length cap,.func (.func 137) #[] #[]] w fun e w'=>e = τ (φ true) /\ w = w':=by
 have C:=hid (PV A l cap B w hn hA hf)
 clear hA hf
 unfold maxLen at hn
 go_enter func136,ntmps136
 go_wp2_with fail
 refine C.out.mono ?_;rintro e w' ⟨i,rfl,hi,rfl⟩
 unfold maxLen at hi
 have h0:(0:Int) <= i:=by omega
 go_wp2_with fail
 go_ret
 exact ⟨rfl,rfl⟩
theorem Ints.take {w:World} {k:IntKind} {B:Nat} {A:Option Addr} {l:List Int} (h:Ints w k B A l) (n:Nat):Ints w k B A (l.take n):=by
 intro i hi
 rw [List.length_take] at hi
 obtain ⟨b,off,rfl,hb,hc⟩:=h i (by omega)
 refine ⟨b,off,rfl,hb,?_⟩
 rw [hc,List.getD_eq_getElem?_getD,List.getD_eq_getElem?_getD,List.getElem?_take_of_lt (by omega)]
theorem JN (key:Int) (A:Option Addr) (l:List Int) (cap r:Nat) (w:World) (hl:l.length <= 4) (hcap:l.length <= cap) (hA:Ints w U w.1.size A l) (hc:AL l) (hr:r <= l.length) (hr0:0 < l.length):
    Calls prog 210 #[σ #[O U key,ψ A l.length cap],O U r] w fun e w'=>e = τ (O U (upTo l r)) /\ Below w.1.size w w':=by
 have HA:=hid hA
 have HC:=hid hc
 obtain ⟨b0,off0,rfl,hb0,_⟩:=hA 0 hr0
 clear hA hc
 go_enter func210,ntmps210
 go_wp2
 go_loopw [5,13] (fun s i wr=>∃ k:Nat,k <= r /\ i = O U k /\ s = O U (upTo l k) /\ Below w.1.size w wr) (fun _ i _=>r - (intOf i).toNat)
 case atStart=>exact ⟨0,Nat.zero_le _,rfl,by rw [DS],(Below.refl _ _).alloc (lr _) _⟩
 case round=>
  obtain ⟨k,hk,rfl,rfl,hbel⟩:=hrel
  have HB:=hid hbel
  clear hbel
  by_cases hlt:k < r
  ·obtain ⟨b,off,e1,hb,hc⟩:=(HA.out.below HB.out (lr _)) k (by omega)
   injection e1 with e1
   injection e1 with e1 e2 e3
   subst e1 e2
   have hlt':(k:Int) < r:=by omega
   have hk0:(0:Int) <= k:=by omega
   have HS:=hid (Dd l (show k < l.length by omega))
   have hv:=HC.out k (by omega)
   have hu:=Dl HC.out (show k <= l.length by omega)
   generalize l.getD k 0 = v at hc hv HS
   generalize upTo l k = s at HS hu
   obtain ⟨v0,v1⟩:=hv
   obtain ⟨u0,u1⟩:=hu
   go_wp2
   go_roundw
   case rel=>exact ⟨k + 1,by omega,by go_num,by rw [HS.out],HB.out⟩
   case measure=>simp [intOf];omega
  ·obtain rfl:k = r:=by omega
   go_wp2
   go_ret
   exact ⟨rfl,HB.out⟩
theorem Hx (key:Int) (A:Option Addr) (l:List Int) (cap:Nat) (w:World) (hl:l.length <= 4) (hcap:l.length <= cap) (hA:Ints w U w.1.size A l) (hc:AL l) (hr0:0 < l.length):
    Calls prog 138 #[σ #[O U key,ψ A l.length cap]] w fun e w'=>e = τ (O U (upTo l l.length)) /\ Below w.1.size w w':=by
 have HA:=hid hA
 have C:=hid (fun w hA=>JN key A l cap l.length w hl hcap hA hc (lr _) hr0)
 clear hA hc
 go_enter func138,ntmps138
 go_wp2_with fail
 refine (C.out _ ((HA.out.below ((Below.refl _ _).alloc (lr _) _) (lr _)).more (by simp))).mono ?_;rintro e w1 ⟨rfl,b1⟩
 have B1:=hid (((Below.refl w.1.size w).alloc (lr _) _).trans (b1.mono (by simp)))
 clear b1 C
 go_wp2_with fail
 go_ret
 exact ⟨rfl,B1.out⟩
theorem Ri (key:Int) (A:Option Addr) (l:List Int) (cap r:Nat) (w:World) (hl:l.length <= 4) (hcap:l.length <= cap) (hA:Ints w U w.1.size A l) (hc:AL l) (hr:r < l.length):
    Calls prog 205 #[σ #[O U key,ψ A l.length cap],O U r] w fun e w'=>e = τ (O U (upTo l r)) /\ Below w.1.size w w':=by
 have HA:=hid hA
 have C:=hid (fun w hA=>JN key A l cap r w hl hcap hA hc (by omega) (by omega))
 have h0:¬ (r:Int) < 0:=by omega
 have h1:¬ (l.length:Int) <= r:=by omega
 clear hA hc
 go_enter func205,ntmps205
 go_wp2_with fail
 refine (C.out _ ((HA.out.below ((Below.refl _ _).alloc (lr _) _) (lr _)).more (by simp))).mono ?_;rintro e w1 ⟨rfl,b1⟩
 have B1:=hid (((Below.refl w.1.size w).alloc (lr _) _).trans (b1.mono (by simp)))
 clear b1 C
 go_wp2_with fail
 go_ret
 exact ⟨rfl,B1.out⟩
theorem Rw (key r:Int) (A:Option Addr) (n cap:Nat) (w:World) (hr:r < 0 \/ n <= r) (hn:n <= 4):
    Calls prog 205 #[σ #[O U key,ψ A n cap],O U r] w fun e w'=>e = τ (O U (-1)) /\ Below w.1.size w w':=by
 by_cases h0:r < 0
 ·clear hr
  go_enter func205,ntmps205
  go_wp2_with fail
  go_ret
  exact ⟨rfl,(Below.refl _ _).alloc (lr _) _⟩
 ·have h1:(n:Int) <= r:=by omega
  clear hr
  go_enter func205,ntmps205
  go_wp2_with fail
  go_ret
  exact ⟨rfl,(Below.refl _ _).alloc (lr _) _⟩
open Classical in
noncomputable def okB (key:Int) (l:List Int):Bool:=decide (Ay key l)
open Classical in
theorem CZ {key:Int} {l:List Int} (h:Ay key l):okB key l = true:=by unfold okB;exact decide_eq_true h
open Classical in
theorem Dg {key:Int} {l:List Int} (h:¬ Ay key l):okB key l = false:=by unfold okB;exact decide_eq_false h
theorem Ap (w:World) (o:Obj):Below w.1.size w (w.alloc o):=(Below.refl _ _).alloc (lr _) _
theorem Ints.boxed {w:World} {k:IntKind} {A:Option Addr} {l:List Int} (h:Ints w k w.1.size A l) (o:Obj):Ints (w.alloc o) k (w.alloc o).1.size A l:=(h.below (Ap w o) (lr _)).more (by simp)
theorem EL (key:Int) (A:Option Addr) (l:List Int) (cap:Nat) (w:World) (hn:l.length <= maxLen) (hcap:l.length <= cap) (hA:Ints w U w.1.size A l):
    Calls prog 67 #[σ #[O U key,ψ A l.length cap]] w fun e w'=>e = τ (φ (okB key l)) /\ Below w.1.size w w':=by
 have hm:=hn
 unfold maxLen at hm
 by_cases hk:1 <= key /\ key <= 1000000
 ·have C:=hid (fun w=>Jm key w hk.1 hk.2)
  by_cases h1:1 <= l.length
  ·by_cases h4:l.length <= 4
   ·have g1:¬ (l.length:Int) < 1:=by omega
    have g4:¬ (4:Int) < l.length:=by omega
    by_cases hc:AL l
    ·have D:=hid (fun B w hA=>LQ A l cap B w hn hA hc)
     have E:=hid (fun w hA=>Hx key A l cap w h4 hcap hA hc h1)
     have HA:=hid (hA.boxed (.cells #[O U key,ψ A l.length cap] 26))
     have hB:okB key l = decide (upTo l l.length <= 24):=by
      by_cases h:upTo l l.length <= 24
      ·rw [CZ ⟨hk,⟨h1,h4⟩,hc,h⟩,decide_eq_true h]
      ·rw [Dg (fun h'=>h h'.2.2.2),decide_eq_false h]
     rw [hB]
     clear hA hc hk hB hn
     generalize upTo l l.length = s at E
     go_enter func67,ntmps67
     go_wp2_with fail
     refine (C.out _).mono ?_;rintro e w' ⟨rfl,rfl⟩
     go_wp2_with fail
     refine (D.out _ _ HA.out).mono ?_;rintro e w' ⟨rfl,rfl⟩
     go_wp2_with fail
     refine (E.out _ HA.out).mono ?_;rintro e w1 ⟨rfl,b1⟩
     have B1:=hid ((Ap w _).trans (b1.mono (by simp)))
     clear b1
     go_wp2_with fail
     go_ret
     exact ⟨rfl,B1.out⟩
    ·have D:=hid (fun B w hA=>Mk A l cap B w hn hA hc)
     have HA:=hid (hA.boxed (.cells #[O U key,ψ A l.length cap] 26))
     rw [Dg (fun h'=>hc h'.2.2.1)]
     clear hA hc hk hn
     go_enter func67,ntmps67
     go_wp2_with fail
     refine (C.out _).mono ?_;rintro e w' ⟨rfl,rfl⟩
     go_wp2_with fail
     refine (D.out _ _ HA.out).mono ?_;rintro e w' ⟨rfl,rfl⟩
     go_wp2_with fail
     go_ret
     exact ⟨rfl,Ap w _⟩
   ·have g1:¬ (l.length:Int) < 1:=by omega
    have g4:(4:Int) < l.length:=by omega
    rw [Dg (fun h'=>h4 h'.2.1.2)]
    clear hA hk hn
    go_enter func67,ntmps67
    go_wp2_with fail
    refine (C.out _).mono ?_;rintro e w' ⟨rfl,rfl⟩
    go_wp2_with fail
    go_ret
    exact ⟨rfl,Ap w _⟩
  ·have g1:(l.length:Int) < 1:=by omega
   rw [Dg (fun h'=>h1 h'.2.1.1)]
   clear hA hk hn
   go_enter func67,ntmps67
   go_wp2_with fail
   refine (C.out _).mono ?_;rintro e w' ⟨rfl,rfl⟩
   go_wp2_with fail
   go_ret
   exact ⟨rfl,Ap w _⟩
 ·have C:=hid (fun w=>OE key w (by omega))
  rw [Dg (fun h'=>hk h'.1)]
  clear hA hk hn
  go_enter func67,ntmps67
  go_wp2_with fail
  refine (C.out _).mono ?_;rintro e w' ⟨rfl,rfl⟩
  go_wp2_with fail
  go_ret
  exact ⟨rfl,Ap w _⟩
theorem JY (key:Int) (A:Option Addr) (l:List Int) (cap:Nat) (w:World) (hn:l.length <= maxLen) (hcap:l.length <= cap) (hA:Ints w U w.1.size A l):
    Calls prog 154 #[σ #[O U key,ψ A l.length cap]] w fun e w'=>e = τ (O U (Bi key l)) /\ Below w.1.size w w':=by
 have C:=hid (fun w hA=>EL key A l cap w hn hcap hA)
 have HA:=hid (hA.boxed (.cells #[O U key,ψ A l.length cap] 26))
 have HB:=hid (Aa.new w 26 #[O U key,ψ A l.length cap])
 by_cases hp:Ay key l
 ·rw [CZ hp] at C
  rw [Hy hp]
  have D:=hid (fun w hA=>Hx key A l cap w hp.2.1.2 hcap hA hp.2.2.1 hp.2.1.1)
  clear hA hp
  go_enter func154,ntmps154
  go_wp2_with fail
  refine (C.out _ HA.out).mono ?_;rintro e w1 ⟨rfl,b1⟩
  have hb:=HB.out.below b1 (by simp)
  have c0:w1.cell? ⟨w.1.size,0,none⟩ = some (O U key):=hb.cell 0
  have c1:w1.cell? ⟨w.1.size,1,none⟩ = some (ψ A l.length cap):=hb.cell 1
  have H1:=hid ((HA.out.below b1 (lr _)).more b1.size)
  have B1:=hid ((Ap w _).trans (b1.mono (by simp)))
  clear b1 hb
  go_wp2_with fail
  refine (D.out _ H1.out).mono ?_;rintro e w2 ⟨rfl,b2⟩
  have B2:=hid (B1.out.trans (b2.mono B1.out.size))
  clear b2
  go_wp2_with fail
  go_ret
  exact ⟨rfl,B2.out⟩
 ·rw [Dg hp] at C
  rw [IZ hp]
  clear hA hp
  go_enter func154,ntmps154
  go_wp2_with fail
  refine (C.out _ HA.out).mono ?_;rintro e w1 ⟨rfl,b1⟩
  have B1:=hid ((Ap w _).trans (b1.mono (by simp)))
  clear b1
  go_wp2_with fail
  go_ret
  exact ⟨rfl,B1.out⟩
theorem Ru (key x:Int) (f:Value) (A:Option Addr) (l:List Int) (cap:Nat) (w:World) (hn:l.length <= maxLen) (hcap:l.length <= cap) (hA:Ints w U w.1.size A l) (hp:¬ Ay key l):
    Calls prog 189 #[σ #[O U key,ψ A l.length cap],f,O U x] w fun e w'=>e = τ (O U (-1)) /\ Below w.1.size w w':=by
 have C:=hid (fun w hA=>EL key A l cap w hn hcap hA)
 have HA:=hid (hA.boxed (.cells #[O U key,ψ A l.length cap] 26))
 rw [Dg hp] at C
 clear hA hp
 go_enter func189,ntmps189
 go_wp2_with fail
 refine (C.out _ HA.out).mono ?_;rintro e w1 ⟨rfl,b1⟩
 have B1:=hid ((Ap w _).trans (b1.mono (by simp)))
 clear b1
 go_wp2_with fail
 go_ret
 exact ⟨rfl,B1.out⟩
theorem OM (key x:Int) (A:Option Addr) (l:List Int) (cap:Nat) (w:World) (hcap:l.length <= cap) (hA:Ints w U w.1.size A l) (hp:Ay key l):
    Calls prog 205 #[σ #[O U key,ψ A l.length cap],O U x] w fun e w'=>e = τ (O U (Ad key l x)) /\ Below w.1.size w w':=by
 by_cases h:0 <= x /\ x < l.length
 ·obtain ⟨r,rfl⟩:∃ r:Nat,x = r:=⟨x.toNat,by omega⟩
  rw [Cs hp (by omega)]
  exact Ri key A l cap r w hp.2.1.2 hcap hA hp.2.2.1 (by omega)
 ·rw [Gl (fun h'=>h h'.2)]
  exact Rw key x A l.length cap w (by omega) hp.2.1.2
theorem OO (key x:Int) (A:Option Addr) (l:List Int) (cap:Nat) (w:World) (hn:l.length <= maxLen) (hcap:l.length <= cap) (hA:Ints w U w.1.size A l) (hp:Ay key l):
    Calls prog 189 #[σ #[O U key,ψ A l.length cap],.func (.func 205) #[σ #[O U key,ψ A l.length cap]] #[],O U x] w fun e w'=>e = τ (O U (Ad key l x)) /\ Below w.1.size w w':=by
 have C:=hid (fun w hA=>EL key A l cap w hn hcap hA)
 have D:=hid (fun w hA=>OM key x A l cap w hcap hA hp)
 have HA:=hid (hA.boxed (.cells #[O U key,ψ A l.length cap] 26))
 rw [CZ hp] at C
 clear hA hp
 generalize Ad key l x = y at D
 go_enter func189,ntmps189
 go_wp2_with fail
 refine (C.out _ HA.out).mono ?_;rintro e w1 ⟨rfl,b1⟩
 have H1:=hid ((HA.out.below b1 (lr _)).more b1.size)
 have B1:=hid ((Ap w _).trans (b1.mono (by simp)))
 clear b1
 go_wp2_with fail
 refine (D.out _ H1.out).mono ?_;rintro e w2 ⟨rfl,b2⟩
 have B2:=hid (B1.out.trans (b2.mono B1.out.size))
 clear b2
 go_wp2_with fail
 go_ret
 exact ⟨rfl,B2.out⟩
theorem LT (key x:Int) (A:Option Addr) (l:List Int) (cap:Nat) (w:World) (hn:l.length <= maxLen) (hcap:l.length <= cap) (hA:Ints w U w.1.size A l):
    Calls prog 131 #[σ #[O U key,ψ A l.length cap],O U x] w fun e w'=>e = τ (O U (Ad key l x)) /\ Below w.1.size w w':=by
 have hmf:∀ (fn:Fn) (first cap:Array Value) (w:World),(Instr.makeFunc fn first cap).run prog w = .ok (.func fn first cap) w:=fun _ _ _ _=>rfl
 have C0:(∀ w,Ints w U w.1.size A l -> Calls prog 189 #[σ #[O U key,ψ A l.length cap],.func (.func 205) #[σ #[O U key,ψ A l.length cap]] #[],O U x] w fun e w'=>e = τ (O U (Ad key l x)) /\ Below w.1.size w w'):=by
  intro w hA
  by_cases hp:Ay key l
  ·exact OO key x A l cap w hn hcap hA hp
  ·rw [Gl (fun h=>hp h.1)];exact Ru key x _ A l cap w hn hcap hA hp
 have C:=hid C0
 clear C0
 have HA:=hid (hA.boxed (.cells #[O U key,ψ A l.length cap] 26))
 clear hA
 generalize Ad key l x = y at C
 go_enter func131,ntmps131
 go_wp2_with fail
 refine (C.out _ HA.out).mono ?_;rintro e w1 ⟨rfl,b1⟩
 have B1:=hid ((Ap w _).trans (b1.mono (by simp)))
 clear b1
 go_wp2_with fail
 go_ret
 exact ⟨rfl,B1.out⟩
theorem GD:(prog.info? 2).map (fun i=>(i.zero,i.size,i.bytes)) = some (some (O U 0),1,8):=by kernel_rfl
theorem Pc {w:World} {b off:Nat} {s} {v:Value} (h:w.cell? ⟨b,off,s⟩ = some v):b < w.1.size:=by
 rcases Nat.lt_or_ge b w.1.size with hlt | hge
 ·exact hlt
 ·simp [World.cell?,Array.getElem?_eq_none hge] at h
theorem Sw {k:IntKind} {w:World} {x:Addr} {zs:List Int} {len:Nat} (hl:len <= zs.length) (hcell:∀ i,i < zs.length -> w.cell? (x.add i) = some (O k (zs.getD i 0))):
    Ints w k w.1.size (some x) (zs.take len):=by
 intro i hi
 have hi':i < len:=by rw [List.length_take] at hi;omega
 have hc:=hcell i (by omega)
 obtain ⟨b,off,spot⟩:=x
 have hspot:spot = none:=by
  have h0:=hcell 0 (by omega)
  simpa [Addr.add] using World.cell?_spot h0
 subst hspot
 have hg:(zs.take len).getD i 0 = zs.getD i 0:=by
  rw [List.getD_eq_getElem?_getD,List.getD_eq_getElem?_getD,List.getElem?_take,if_pos hi']
 rw [hg]
 have hc':w.cell? ⟨b,off + i,none⟩ = some (O k (zs.getD i 0)):=by
  rcases Nat.eq_zero_or_pos i with rfl | hp
  ·simpa [Addr.add] using hc
  ·have hne:i ≠ 0:=by omega
   simpa [Addr.add,hne] using hc
 exact ⟨b,off,rfl,Pc hc',hc'⟩
theorem Hc (A:Option Addr) (l:List Int) (cap B:Nat) (w:World) (hl:l.length <= 4) (hA:Ints w U B A l) (hc:AL l):
    Calls prog 146 #[ψ A l.length cap] w fun e w'=>e = τ (O U (upTo l l.length)) /\ w = w':=by
 go_enter func146,ntmps146
 go_wp2
 go_loop [3,4] (fun s i=>∃ k:Nat,k <= l.length /\ i = O U k /\ s = O U (upTo l k)) (fun _ i=>l.length - (intOf i).toNat)
 case atStart=>exact ⟨0,Nat.zero_le _,rfl,by rw [DS]⟩
 case round=>
  obtain ⟨k,hk,rfl,rfl⟩:=hrel
  by_cases hlt:k < l.length
  ·obtain ⟨b,off,rfl,hb,hv⟩:=hA k hlt
   have hlt':(k:Int) < l.length:=by omega
   have hk0:(0:Int) <= k:=by omega
   have HS:=hid (Dd l hlt)
   have hu:=Dl hc hk
   have hb:=hc k hlt
   clear hA hc
   generalize l.getD k 0 = v at hv hb HS
   generalize upTo l k = s at HS hu
   obtain ⟨v0,v1⟩:=hb
   obtain ⟨u0,u1⟩:=hu
   go_wp2
   go_round
   case rel=>exact ⟨k + 1,by omega,by go_num,by rw [HS.out]⟩
   case measure=>simp [intOf];omega
  ·obtain rfl:k = l.length:=by omega
   clear hA hc
   go_wp2
   go_ret
   exact ⟨rfl,rfl⟩
theorem IM (key:Int) (A:Option Addr) (l:List Int) (cap:Nat) (w:World) (hk:1 <= key /\ key <= 1000000) (h1:1 <= l.length) (h4:l.length <= 4) (hA:Ints w U w.1.size A l) (hc:AL l):
    Calls prog 71 #[σ #[O U key,ψ A l.length cap]] w fun e w'=>e = τ (φ (okB key l)) /\ Below w.1.size w w':=by
 have g1:¬ (l.length:Int) < 1:=by omega
 have g4:¬ (4:Int) < l.length:=by omega
 have C:=hid (fun w=>EB key w hk.1 hk.2)
 have hA':=hA.boxed (.cells #[O U key,ψ A l.length cap] 26)
 have HA:=hid hA'
 have HC:=hid hc
 have D:=hid (fun B w hA=>Hc A l cap B w h4 hA hc)
 have hB:okB key l = decide (upTo l l.length <= 24):=by
  by_cases h:upTo l l.length <= 24
  ·rw [CZ ⟨hk,⟨h1,h4⟩,hc,h⟩,decide_eq_true h]
  ·rw [Dg (fun h'=>h h'.2.2.2),decide_eq_false h]
 rw [hB]
 clear hA hA' hc hk hB
 generalize upTo l l.length = s at D
 go_enter func71,ntmps71
 go_wp2_with fail
 refine (C.out _).mono ?_;rintro e w' ⟨rfl,rfl⟩
 go_wp2_with fail
 go_loop [3] (fun i=>∃ k:Nat,k <= l.length /\ i = O U k) (fun i=>l.length - (intOf i).toNat)
 case atStart=>exact ⟨0,Nat.zero_le _,rfl⟩
 case round=>
  obtain ⟨k,hk,rfl⟩:=hrel
  by_cases hlt:k < l.length
  ·obtain ⟨b,off,rfl,hb,hv⟩:=HA.out k hlt
   have hb:=HC.out k hlt
   have hlt':(k:Int) < l.length:=by omega
   have hk0:(0:Int) <= k:=by omega
   generalize l.getD k 0 = v at hv hb
   have E:=hid (fun w=>Bm v 1 8 w hb.1 hb.2)
   go_wp2_with fail
   refine (E.out _).mono ?_;rintro e w' ⟨rfl,rfl⟩
   go_wp2_with fail
   go_round
   case rel=>exact ⟨k + 1,by omega,by go_num⟩
   case measure=>simp [intOf];omega
  ·obtain rfl:k = l.length:=by omega
   go_wp2_with fail
   refine (D.out _ _ HA.out).mono ?_;rintro e w' ⟨rfl,rfl⟩
   go_wp2_with fail
   go_ret
   exact ⟨rfl,Ap w _⟩
theorem Ls (key:Int) (A:Option Addr) (l:List Int) (cap:Nat) (w:World) (hk:1 <= key /\ key <= 1000000) (h1:1 <= l.length) (h4:l.length <= 4) (hA:Ints w U w.1.size A l) (hc:¬ AL l):
    Calls prog 71 #[σ #[O U key,ψ A l.length cap]] w fun e w'=>e = τ (φ (okB key l)) /\ Below w.1.size w w':=by
 rw [Dg (fun h'=>hc h'.2.2.1)]
 have g1:¬ (l.length:Int) < 1:=by omega
 have g4:¬ (4:Int) < l.length:=by omega
 have C:=hid (fun w=>EB key w hk.1 hk.2)
 have hA':=hA.boxed (.cells #[O U key,ψ A l.length cap] 26)
 have HA:=hid hA'
 obtain ⟨j,hj,hjv⟩:=Lx hc
 have HJ:=hid hjv
 clear hA hA' hc hk hjv
 go_enter func71,ntmps71
 go_wp2_with fail
 refine (C.out _).mono ?_;rintro e w' ⟨rfl,rfl⟩
 go_wp2_with fail
 go_loop [3] (fun i=>∃ k:Nat,k <= j /\ i = O U k) (fun i=>l.length - (intOf i).toNat)
 case atStart=>exact ⟨0,Nat.zero_le _,rfl⟩
 case round=>
  obtain ⟨k,hk,rfl⟩:=hrel
  have hlt:k < l.length:=by omega
  obtain ⟨b,off,rfl,hb,hv⟩:=HA.out k hlt
  have hlt':(k:Int) < l.length:=by omega
  have hk0:(0:Int) <= k:=by omega
  by_cases hbad:l.getD k 0 < 1 \/ 8 < l.getD k 0
  ·have E:=hid (fun w=>DD (l.getD k 0) 1 8 w hbad)
   clear hbad HJ
   generalize l.getD k 0 = v at hv E
   go_wp2_with fail
   refine (E.out _).mono ?_;rintro e w' ⟨rfl,rfl⟩
   go_wp2_with fail
   go_ret
   exact ⟨rfl,Ap w _⟩
  ·have hkj:k < j:=by
     rcases Nat.lt_or_ge k j with h | h
     ·exact h
     ·obtain rfl:k = j:=by omega
      exact absurd HJ.out hbad
   have E:=hid (fun w=>Bm (l.getD k 0) 1 8 w (by omega) (by omega))
   clear hbad HJ
   generalize l.getD k 0 = v at hv E
   go_wp2_with fail
   refine (E.out _).mono ?_;rintro e w' ⟨rfl,rfl⟩
   go_wp2_with fail
   go_round
   case rel=>exact ⟨k + 1,by omega,by go_num⟩
   case measure=>simp [intOf];omega
theorem AW (key:Int) (A:Option Addr) (l:List Int) (cap:Nat) (w:World) (hn:l.length <= maxLen) (hA:Ints w U w.1.size A l):
    Calls prog 71 #[σ #[O U key,ψ A l.length cap]] w fun e w'=>e = τ (φ (okB key l)) /\ Below w.1.size w w':=by
 have hm:=hn
 unfold maxLen at hm
 by_cases hk:1 <= key /\ key <= 1000000
 ·have C:=hid (fun w=>EB key w hk.1 hk.2)
  by_cases h1:1 <= l.length
  ·by_cases h4:l.length <= 4
   ·by_cases hc:AL l
    ·exact IM key A l cap w hk h1 h4 hA hc
    ·exact Ls key A l cap w hk h1 h4 hA hc
   ·have g1:¬ (l.length:Int) < 1:=by omega
    have g4:(4:Int) < l.length:=by omega
    rw [Dg (fun h'=>h4 h'.2.1.2)]
    clear hA hk hn
    go_enter func71,ntmps71
    go_wp2_with fail
    refine (C.out _).mono ?_;rintro e w' ⟨rfl,rfl⟩
    go_wp2_with fail
    go_ret
    exact ⟨rfl,Ap w _⟩
  ·have g1:(l.length:Int) < 1:=by omega
   rw [Dg (fun h'=>h1 h'.2.1.1)]
   clear hA hk hn
   go_enter func71,ntmps71
   go_wp2_with fail
   refine (C.out _).mono ?_;rintro e w' ⟨rfl,rfl⟩
   go_wp2_with fail
   go_ret
   exact ⟨rfl,Ap w _⟩
 ·have C:=hid (fun w=>GJ key w (by omega))
  rw [Dg (fun h'=>hk h'.1)]
  clear hA hk hn
  go_enter func71,ntmps71
  go_wp2_with fail
  refine (C.out _).mono ?_;rintro e w' ⟨rfl,rfl⟩
  go_wp2_with fail
  go_ret
  exact ⟨rfl,Ap w _⟩
theorem FR (key:Int) (A:Option Addr) (l:List Int) (cap:Nat) (w:World) (hn:l.length <= maxLen) (hA:Ints w U w.1.size A l):
    Calls prog 162 #[σ #[O U key,ψ A l.length cap]] w fun e w'=>e = τ (O U (Bi key l)) /\ Below w.1.size w w':=by
 have C:=hid (fun w hA=>AW key A l cap w hn hA)
 have HA:=hid (hA.boxed (.cells #[O U key,ψ A l.length cap] 26))
 have HB:=hid (Aa.new w 26 #[O U key,ψ A l.length cap])
 by_cases hp:Ay key l
 ·rw [CZ hp] at C
  rw [Hy hp]
  have D:=hid (fun B w hA=>Hc A l cap B w hp.2.1.2 hA hp.2.2.1)
  clear hA hp
  go_enter func162,ntmps162
  go_wp2_with fail
  refine (C.out _ HA.out).mono ?_;rintro e w1 ⟨rfl,b1⟩
  have hb:=HB.out.below b1 (by simp)
  have c0:w1.cell? ⟨w.1.size,0,none⟩ = some (O U key):=hb.cell 0
  have c1:w1.cell? ⟨w.1.size,1,none⟩ = some (ψ A l.length cap):=hb.cell 1
  have H1:=hid ((HA.out.below b1 (lr _)).more b1.size)
  have B1:=hid ((Ap w _).trans (b1.mono (by simp)))
  clear b1 hb
  go_wp2_with fail
  refine (D.out _ _ H1.out).mono ?_;rintro e w2 ⟨rfl,rfl⟩
  go_wp2_with fail
  go_ret
  exact ⟨rfl,B1.out⟩
 ·rw [Dg hp] at C
  rw [IZ hp]
  clear hA hp
  go_enter func162,ntmps162
  go_wp2_with fail
  refine (C.out _ HA.out).mono ?_;rintro e w1 ⟨rfl,b1⟩
  have B1:=hid ((Ap w _).trans (b1.mono (by simp)))
  clear b1
  go_wp2_with fail
  go_ret
  exact ⟨rfl,B1.out⟩

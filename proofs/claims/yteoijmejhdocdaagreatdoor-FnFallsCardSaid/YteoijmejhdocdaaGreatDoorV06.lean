import Derived.Test.YteoijmejhdocdaaGreatDoorV05
import Derived.Deep.CutRange
namespace Go.Proofs.YteoijmejhdocdaaGreatDoor.Mx
open Go.ChangeShapes Go.WideShapes Go.ChangeAt Go.RowKit
set_option linter.unusedVariables false
open Go.Lib (hid)
open Go.Proofs.Tryz
set_option maxRecDepth 20000
set_option maxHeartbeats 64000000
open Value renaming int → O, slice → ψ, bool → φ, agg → σ
open IntKind renaming i64 → U
open Ending renaming returned → τ
theorem Rg (l:List Int) (r:Nat):upTo (l.take r) (l.take r).length = upTo l r:=by unfold upTo;rw [List.take_length]
theorem AL.take {l:List Int} (h:AL l) (r:Nat):AL (l.take r):=by
 intro i hi
 rw [List.length_take] at hi
 rw [List.getD_eq_getElem?_getD,List.getElem?_take_of_lt (by omega),<- List.getD_eq_getElem?_getD]
 exact h i (by omega)
theorem Pw (A:Option Addr) (l:List Int) (cap B r:Nat) (w:World) (hl:l.length <= 4) (hr:r <= l.length) (hA:Ints w U B A l) (hc:AL l):
    Calls prog 146 #[ψ A r cap] w fun e w'=>e = τ (O U (upTo l r)) /\ w = w':=by
 have h:=Hc A (l.take r) cap B w (by rw [List.length_take];omega) (hA.take r) (hc.take r)
 rw [Rg,List.length_take,Nat.min_eq_left hr] at h
 exact h
theorem Ga (key:Int) (A:Option Addr) (l:List Int) (cap r:Nat) (w:World) (hn:l.length <= maxLen) (hcap:l.length <= cap) (hA:Ints w U w.1.size A l) (hp:Ay key l) (hr:r < l.length):
    Calls prog 132 #[σ #[O U key,ψ A l.length cap],O U r] w fun e w'=>e = τ (O U (upTo l r)) /\ Below w.1.size w w':=by
 have hl:=hp.2.1.2
 have C:=hid (fun w hA=>AW key A l cap w hn hA)
 have HA:=hid (hA.boxed (.cells #[O U key,ψ A l.length cap] 26))
 have HB:=hid (Aa.new w 26 #[O U key,ψ A l.length cap])
 have D:=hid (fun B w hA=>Pw A l cap B r w hp.2.1.2 (by omega) hA hp.2.2.1)
 have E:=hid (fun w=>Bm r 0 (l.length - 1) w (by omega) (by omega))
 rw [CZ hp] at C
 obtain ⟨b0,off0,rfl,hb0,_⟩:=hA 0 (by omega)
 clear hA hp
 go_enter func132,ntmps132
 go_wp2_with fail
 refine (C.out _ HA.out).mono ?_;rintro e w1 ⟨rfl,b1⟩
 have hb:=HB.out.below b1 (by simp)
 have c0:w1.cell? ⟨w.1.size,0,none⟩ = some (O U key):=hb.cell 0
 have c1:w1.cell? ⟨w.1.size,1,none⟩ = some (ψ (some ⟨b0,off0,none⟩) l.length cap):=hb.cell 1
 have H1:=hid ((HA.out.below b1 (lr _)).more b1.size)
 have B1:=hid ((Ap w _).trans (b1.mono (by simp)))
 clear b1 hb
 go_wp2_with fail
 refine (E.out _).mono ?_;rintro e w2 ⟨rfl,rfl⟩
 go_wp2_with fail
 refine (D.out _ _ H1.out).mono ?_;rintro e w2 ⟨rfl,rfl⟩
 go_wp2_with fail
 go_ret
 exact ⟨rfl,B1.out⟩
theorem Md (key x:Int) (A:Option Addr) (l:List Int) (cap:Nat) (w:World) (hn:l.length <= maxLen) (hA:Ints w U w.1.size A l) (hp:Ay key l) (hr:x < 0 \/ l.length <= x):
    Calls prog 132 #[σ #[O U key,ψ A l.length cap],O U x] w fun e w'=>e = τ (O U (-1)) /\ Below w.1.size w w':=by
 have hl:=hp.2.1.2
 have C:=hid (fun w hA=>AW key A l cap w hn hA)
 have HA:=hid (hA.boxed (.cells #[O U key,ψ A l.length cap] 26))
 have HB:=hid (Aa.new w 26 #[O U key,ψ A l.length cap])
 have E:=hid (fun w=>DD x 0 (l.length - 1) w (by omega))
 rw [CZ hp] at C
 clear hA hp hr
 go_enter func132,ntmps132
 go_wp2_with fail
 refine (C.out _ HA.out).mono ?_;rintro e w1 ⟨rfl,b1⟩
 have hb:=HB.out.below b1 (by simp)
 have c0:w1.cell? ⟨w.1.size,0,none⟩ = some (O U key):=hb.cell 0
 have c1:w1.cell? ⟨w.1.size,1,none⟩ = some (ψ A l.length cap):=hb.cell 1
 have B1:=hid ((Ap w _).trans (b1.mono (by simp)))
 clear b1 hb
 go_wp2_with fail
 refine (E.out _).mono ?_;rintro e w2 ⟨rfl,rfl⟩
 go_wp2_with fail
 go_ret
 exact ⟨rfl,B1.out⟩
theorem Nr (key x:Int) (A:Option Addr) (l:List Int) (cap:Nat) (w:World) (hn:l.length <= maxLen) (hA:Ints w U w.1.size A l) (hp:¬ Ay key l):
    Calls prog 132 #[σ #[O U key,ψ A l.length cap],O U x] w fun e w'=>e = τ (O U (-1)) /\ Below w.1.size w w':=by
 have C:=hid (fun w hA=>AW key A l cap w hn hA)
 have HA:=hid (hA.boxed (.cells #[O U key,ψ A l.length cap] 26))
 rw [Dg hp] at C
 clear hA hp
 go_enter func132,ntmps132
 go_wp2_with fail
 refine (C.out _ HA.out).mono ?_;rintro e w1 ⟨rfl,b1⟩
 have B1:=hid ((Ap w _).trans (b1.mono (by simp)))
 clear b1
 go_wp2_with fail
 go_ret
 exact ⟨rfl,B1.out⟩
theorem CI (key x:Int) (A:Option Addr) (l:List Int) (cap:Nat) (w:World) (hn:l.length <= maxLen) (hcap:l.length <= cap) (hA:Ints w U w.1.size A l):
    Calls prog 132 #[σ #[O U key,ψ A l.length cap],O U x] w fun e w'=>e = τ (O U (Ad key l x)) /\ Below w.1.size w w':=by
 by_cases hp:Ay key l
 ·by_cases h:0 <= x /\ x < l.length
  ·obtain ⟨r,rfl⟩:∃ r:Nat,x = r:=⟨x.toNat,by omega⟩
   rw [Cs hp (by omega)]
   exact Ga key A l cap r w hn hcap hA hp (by omega)
  ·rw [Gl (fun h'=>h h'.2)]
   exact Md key x A l cap w hn hA hp (by omega)
 ·rw [Gl (fun h'=>hp h'.1)]
  exact Nr key x A l cap w hn hA hp
def Gg (b:World) (g:Nat) (cs:Array Value) (c:Addr) (x:Value) (w:World):Prop:=
 Below b.1.size b w /\ Aa w g 26 cs /\ c.block < w.1.size /\ w.cell? c = some x
theorem Gg.cells {b:World} {g:Nat} {u v x:Value} {c:Addr} {w:World} (h:Gg b g #[u,v] c x w):
    (w.cell? ⟨g,0,none⟩ = some u /\ w.cell? ⟨g,1,none⟩ = some v /\ w.cell? c = some x) /\ Gg b g #[u,v] c x w:=⟨⟨h.2.1.cell 0,h.2.1.cell 1,h.2.2.2⟩,h⟩
theorem Gg.keep {b:World} {g:Nat} {u v x:Value} {c:Addr} {w w':World} (hb:Below w.1.size w w')
    (h:(w.cell? ⟨g,0,none⟩ = some u /\ w.cell? ⟨g,1,none⟩ = some v /\ w.cell? c = some x) /\ Gg b g #[u,v] c x w):
    (w'.cell? ⟨g,0,none⟩ = some u /\ w'.cell? ⟨g,1,none⟩ = some v /\ w'.cell? c = some x) /\ Gg b g #[u,v] c x w':=
 Gg.cells ⟨h.2.1.trans (hb.mono h.2.1.size),h.2.2.1.below hb h.2.2.1.lt,Nat.lt_of_lt_of_le h.2.2.2.1 hb.size,(hb.cell h.2.2.2.1).trans h.2.2.2.2⟩
theorem Ht (key x:Int) (A:Option Addr) (l:List Int) (cap:Nat) (w:World) (hn:l.length <= maxLen) (hA:Ints w U w.1.size A l) (hp:¬ Ay key l):
    Calls prog 128 #[σ #[O U key,ψ A l.length cap],O U x] w fun e w'=>e = τ (O U (-1)) /\ Below w.1.size w w':=by
 have C:=hid (fun w hA=>AW key A l cap w hn hA)
 have HA:=hid (hA.boxed (.cells #[O U key,ψ A l.length cap] 26))
 rw [Dg hp] at C
 clear hA hp
 go_enter func128,ntmps128
 go_wp2_with fail
 refine (C.out _ HA.out).mono ?_;rintro e w1 ⟨rfl,b1⟩
 have B1:=hid ((Ap w _).trans (b1.mono (by simp)))
 clear b1
 go_wp2_with fail
 go_ret
 exact ⟨rfl,B1.out⟩
theorem Ku (key x:Int) (A:Option Addr) (l:List Int) (cap:Nat) (w:World) (hn:l.length <= maxLen) (hA:Ints w U w.1.size A l) (hx:x < 0):
    Calls prog 128 #[σ #[O U key,ψ A l.length cap],O U x] w fun e w'=>e = τ (O U (-1)) /\ Below w.1.size w w':=by
 by_cases hp:Ay key l
 ·have C:=hid (fun w hA=>AW key A l cap w hn hA)
  have HA:=hid (hA.boxed (.cells #[O U key,ψ A l.length cap] 26))
  rw [CZ hp] at C
  clear hA hp
  go_enter func128,ntmps128
  go_wp2_with fail
  refine (C.out _ HA.out).mono ?_;rintro e w1 ⟨rfl,b1⟩
  have B1:=hid ((Ap w _).trans (b1.mono (by simp)))
  clear b1
  go_wp2_with fail
  go_ret
  exact ⟨rfl,B1.out⟩
 ·exact Ht key x A l cap w hn hA hp
theorem Ly (key x:Int) (A:Option Addr) (l:List Int) (cap:Nat) (w:World) (hn:l.length <= maxLen) (hcap:l.length <= cap) (hA:Ints w U w.1.size A l) (hp:Ay key l) (hx:0 <= x):
    Calls prog 128 #[σ #[O U key,ψ A l.length cap],O U x] w fun e w'=>(∃ r,e = τ (O U r) /\ EC l x r) /\ Below w.1.size w w':=by
 have hl:=hp.2.1.2
 have C:=hid (fun w hA=>AW key A l cap w hn hA)
 have D:=hid (fun w r hA hr=>Ga key A l cap r w hn hcap hA hp hr)
 have HA:=hid (hA.boxed (.cells #[O U key,ψ A l.length cap] 26))
 have HB:=hid (Aa.new w 26 #[O U key,ψ A l.length cap])
 have HC:=hid hp.2.2.1
 have hxn:¬ x < 0:=by omega
 rw [CZ hp] at C
 clear hA hp
 go_enter func128,ntmps128
 go_wp2_with fail
 refine (C.out _ HA.out).mono ?_;rintro e w1 ⟨rfl,b1⟩
 have HB1:=hid (HB.out.below b1 (by simp))
 have HA1:=hid ((HA.out.below b1 (lr _)).more b1.size)
 have B1:=hid ((Ap w _).trans (b1.mono (by simp)))
 clear b1 C HA HB
 go_wp2_with fail
 go_loopw [5] (fun i wr=>∃ k:Nat,k <= l.length /\ i = O U k /\ upTo l k <= x /\ Below w1.1.size w1 wr) (fun i _=>l.length - (intOf i).toNat)
 case atStart=>exact ⟨0,Nat.zero_le _,rfl,by rw [DS];exact hx,Below.refl _ _⟩
 case round=>
  obtain ⟨k,hk,rfl,hux,hbel⟩:=hrel
  have HU:=hid hux
  have HBr:=hid (HB1.out.below hbel HB1.out.lt)
  have HAr:=hid ((HA1.out.below hbel (lr _)).more hbel.size)
  have BR:=hid hbel
  have c0:=HBr.out.cell 0
  have c1:=HBr.out.cell 1
  clear hux hbel
  by_cases hlt:k < l.length
  ·obtain ⟨b,off,rfl,hb,hv⟩:=HAr.out k hlt
   have hlt':(k:Int) < l.length:=by omega
   have hk0:(0:Int) <= k:=by omega
   have HS:=hid (Dd l hlt)
   have hcv:=HC.out k hlt
   have hu:=Dl HC.out hk
   have S0:=hid (show Gg w1 w.1.size #[O U key,ψ (some ⟨b,off,none⟩) l.length cap] ⟨b,off + k,none⟩ (O U (l.getD k 0)) wr.drew from ⟨BR.out.drew,HBr.out.drew,hb,hv⟩)
   have DK:=hid (fun u (hS:(u.cell? ⟨w.1.size,0,none⟩ = some (O U key) /\ u.cell? ⟨w.1.size,1,none⟩ = some (ψ (some ⟨b,off,none⟩) l.length cap) /\ u.cell? ⟨b,off + k,none⟩ = some (O U (l.getD k 0))) /\ Gg w1 w.1.size #[O U key,ψ (some ⟨b,off,none⟩) l.length cap] ⟨b,off + k,none⟩ (O U (l.getD k 0)) u)=>D.out u k ((HA1.out.below hS.2.1 (lr _)).more hS.2.1.size) hlt)
   generalize l.getD k 0 = v at hv hcv HS S0 DK
   have HU0:=hid (show upTo l k <= x from HU.out)
   generalize hsu:upTo l k = s at HS hu HU DK
   clear hsu
   obtain ⟨v0,v1⟩:=hcv
   obtain ⟨u0,u1⟩:=hu
   clear D
   have hwr:IntKind.i64.wrap (s + v) = s + v:=IntWalk.i64_in _ (by omega)
   by_cases hin:x < s + v
   have z_1:=trivial;rotate_left;have z_2:=trivial;rotate_left
   all_goals
    go_wp2_with fail
    go_region_held3 (fun w'=>(w'.cell? ⟨w.1.size,0,none⟩ = some (O U key) /\ w'.cell? ⟨w.1.size,1,none⟩ = some (ψ (some ⟨b,off,none⟩) l.length cap) /\ w'.cell? ⟨b,off + k,none⟩ = some (O U v)) /\ Gg w1 w.1.size #[O U key,ψ (some ⟨b,off,none⟩) l.length cap] ⟨b,off + k,none⟩ (O U v) w')
     (first | exact Gg.keep ‹Below _ _ _› ‹_› | exact Gg.cells S0.out)
     (first | (go_at_call 132;refine (DK.out _ ‹_›).mono ?_;rintro e wx ⟨rfl,bx⟩))
    all_goals
     obtain ⟨-,SX⟩:=‹_ /\ Gg _ _ _ _ _ _›
     have BX:=hid SX.1
     first
      | guard_hyp z_1
        have HI:=hid (show x < upTo l (k + 1) by rw [HS.out];exact hin)
        have HV:=hid (show upTo l k <= x from HU0.out)
      | have HI:=hid (show upTo l (k + 1) <= x by rw [HS.out];omega)
     clear SX
     go_wp2_with fail
     first
      | guard_hyp z_1
        go_ret
        exact ⟨⟨_,rfl,.inl ⟨k,hlt,rfl,HV.out,HI.out⟩⟩,B1.out.trans (BX.out.mono B1.out.size)⟩
      | go_roundw
        case rel=>exact ⟨k + 1,by omega,by go_num,HI.out,BX.out⟩
        case measure=>simp [intOf];omega
  ·obtain rfl:k = l.length:=by omega
   go_wp2_with fail
   go_ret
   exact ⟨⟨_,rfl,.inr ⟨rfl,HU.out⟩⟩,B1.out.trans (BR.out.mono B1.out.size)⟩
theorem Be (key x:Int) (A:Option Addr) (l:List Int) (cap:Nat) (w:World) (hn:l.length <= maxLen) (hcap:l.length <= cap) (hA:Ints w U w.1.size A l):
    Calls prog 128 #[σ #[O U key,ψ A l.length cap],O U x] w fun e w'=>e = τ (O U (Am key l x)) /\ Below w.1.size w w':=by
 by_cases hp:Ay key l
 ·by_cases h0:x < 0
  ·rw [GN (by omega)];exact Ku key x A l cap w hn hA h0
  ·refine (Ly key x A l cap w hn hcap hA hp (by omega)).mono ?_
   rintro e w' ⟨⟨r,rfl,hr⟩,hb⟩
   rw [Nj hp (by omega) hr]
   exact ⟨rfl,hb⟩
 ·rw [GN (fun h=>hp h.1)];exact Ht key x A l cap w hn hA hp
structure Tru where
 clock:Int
 epoch:Int
 cursor:Int
 read:Int
 written:Int
 nread:Int
 nwritten:Int
 failed:Bool
abbrev tR (t:Tru):Array Value:=#[O U t.clock,O U t.epoch,O U t.cursor,O U t.read,O U t.written,O U t.nread,O U t.nwritten,φ t.failed]
def AU (s:Int):Prop:=0 <= s /\ s <= 4611686018427387903
instance (s:Int):Decidable (AU s):=inferInstanceAs (Decidable (_ /\ _))
def Bk (key:Int) (l:List Int) (r:Int) (t:Tru):Prop:=
 Ay key l /\ (0 <= r /\ r < l.length) /\ isTm t.clock /\ (0 <= t.epoch /\ t.epoch <= 1000) /\ (0 <= t.cursor /\ t.cursor <= l.getD r.toNat 0 - 1) /\
 (t.cursor = 0 -> t.nread = 0 /\ t.nwritten = 0) /\ AU t.read /\ AU t.written /\ AU t.nread /\ AU t.nwritten
open Classical in
noncomputable def Gt (key:Int) (l:List Int) (r:Int) (t:Tru):Bool:=decide (Bk key l r t)
open Classical in
theorem Co {key:Int} {l:List Int} {r:Int} {t:Tru} (h:Bk key l r t):Gt key l r t = true:=by unfold Gt;exact decide_eq_true h
open Classical in
theorem CD {key:Int} {l:List Int} {r:Int} {t:Tru} (h:¬ Bk key l r t):Gt key l r t = false:=by unfold Gt;exact decide_eq_false h
def InB (s lo hi:Int) (z:Bool):Prop:=z = decide (lo <= s /\ s <= hi)
theorem InB.yes {s lo hi:Int} (h0:lo <= s) (h1:s <= hi):InB s lo hi true:=(decide_eq_true ⟨h0,h1⟩).symm
theorem InB.no {s lo hi:Int} (h:¬ (lo <= s /\ s <= hi)):InB s lo hi false:=(decide_eq_false h).symm
theorem KH (s lo hi:Int) (z:Bool) (w:World) (h:InB s lo hi z):
    Calls prog 82 #[O U s,O U lo,O U hi] w fun e w'=>e = τ (φ z) /\ w = w':=by
 unfold InB at h
 subst h
 by_cases hc:lo <= s /\ s <= hi
 ·rw [decide_eq_true hc];exact Bm s lo hi w hc.1 hc.2
 ·rw [decide_eq_false hc];exact DD s lo hi w (by omega)
def TmB (s:Int) (z:Bool):Prop:=z = decide (isTm s)
theorem TmB.yes {s:Int} (h:isTm s):TmB s true:=(decide_eq_true h).symm
theorem TmB.no {s:Int} (h:¬ isTm s):TmB s false:=(decide_eq_false h).symm
theorem Rt (s:Int) (z:Bool) (w:World) (h:TmB s z):
    Calls prog 167 #[O U s] w fun e w'=>e = τ (φ z) /\ w = w':=by
 unfold TmB at h
 subst h
 by_cases hc:isTm s
 ·rw [decide_eq_true hc];exact EM s w hc
 ·rw [decide_eq_false hc];exact Jk s w hc
def SumB (s:Int) (z:Bool):Prop:=z = decide (AU s)
theorem SumB.yes {s:Int} (h:AU s):SumB s true:=(decide_eq_true h).symm
theorem SumB.no {s:Int} (h:¬ AU s):SumB s false:=(decide_eq_false h).symm
theorem Db (s:Int) (z:Bool) (w:World) (h:SumB s z):
    Calls prog 221 #[O U s] w fun e w'=>e = τ (φ z) /\ w = w':=by
 have C:=hid (fun w=>KH s 0 4611686018427387903 z w h)
 clear h
 go_enter func221,ntmps221
 go_wp2_with fail
 refine (C.out _).mono ?_;rintro e w' ⟨rfl,rfl⟩
 go_wp2_with fail
 go_ret
 exact ⟨rfl,rfl⟩
def TrS (b:World) (p q:Nat) (cs ds:Array Value) (c:Addr) (x:Value) (w:World):Prop:=
 Below b.1.size b w /\ Aa w p 26 cs /\ Aa w q 94 ds /\ c.block < w.1.size /\ w.cell? c = some x
section
variable {b w w':World} {p q:Nat} {u v x0 x1 x2 x3 x4 x5 x6 x7 x:Value} {c:Addr}
theorem TrS.cells (h:TrS b p q #[u,v] #[x0,x1,x2,x3,x4,x5,x6,x7] c x w):
    (w.cell? ⟨p,0,none⟩ = some u /\ w.cell? ⟨p,1,none⟩ = some v /\ w.cell? ⟨q,0,none⟩ = some x0 /\ w.cell? ⟨q,1,none⟩ = some x1 /\ w.cell? ⟨q,2,none⟩ = some x2 /\ w.cell? c = some x) /\ TrS b p q #[u,v] #[x0,x1,x2,x3,x4,x5,x6,x7] c x w:=
 ⟨⟨h.2.1.cell 0,h.2.1.cell 1,h.2.2.1.cell 0,h.2.2.1.cell 1,h.2.2.1.cell 2,h.2.2.2.2⟩,h⟩
theorem TrS.keep (hb:Below w.1.size w w')
    (h:(w.cell? ⟨p,0,none⟩ = some u /\ w.cell? ⟨p,1,none⟩ = some v /\ w.cell? ⟨q,0,none⟩ = some x0 /\ w.cell? ⟨q,1,none⟩ = some x1 /\ w.cell? ⟨q,2,none⟩ = some x2 /\ w.cell? c = some x) /\ TrS b p q #[u,v] #[x0,x1,x2,x3,x4,x5,x6,x7] c x w):
    (w'.cell? ⟨p,0,none⟩ = some u /\ w'.cell? ⟨p,1,none⟩ = some v /\ w'.cell? ⟨q,0,none⟩ = some x0 /\ w'.cell? ⟨q,1,none⟩ = some x1 /\ w'.cell? ⟨q,2,none⟩ = some x2 /\ w'.cell? c = some x) /\ TrS b p q #[u,v] #[x0,x1,x2,x3,x4,x5,x6,x7] c x w':=
 TrS.cells ⟨h.2.1.trans (hb.mono h.2.1.size),h.2.2.1.below hb h.2.2.1.lt,h.2.2.2.1.below hb h.2.2.2.1.lt,Nat.lt_of_lt_of_le h.2.2.2.2.1 hb.size,(hb.cell h.2.2.2.2.1).trans h.2.2.2.2.2⟩
end
theorem AX (key x:Int) (A:Option Addr) (l:List Int) (cap:Nat) (t0 t1 t2 t3 t4 t5 t6:Int) (t7:Bool) (w:World) (hn:l.length <= maxLen) (hA:Ints w U w.1.size A l):
    Calls prog 160 #[σ #[O U key,ψ A l.length cap],O U x,σ #[O U t0,O U t1,O U t2,O U t3,O U t4,O U t5,O U t6,φ t7]] w fun e w'=>e = τ (φ (Gt key l x ⟨t0,t1,t2,t3,t4,t5,t6,t7⟩)) /\ Below w.1.size w w':=by
 have hm:=hn
 unfold maxLen at hm
 have b0:Below w.1.size w ((w.alloc (.cells #[O U key,ψ A l.length cap] 26)).alloc (.cells #[O U t0,O U t1,O U t2,O U t3,O U t4,O U t5,O U t6,φ t7] 94)):=((Below.refl w.1.size w).alloc (lr _) _).alloc (by simp) _
 have kp:Aa ((w.alloc (.cells #[O U key,ψ A l.length cap] 26)).alloc (.cells #[O U t0,O U t1,O U t2,O U t3,O U t4,O U t5,O U t6,φ t7] 94)) w.1.size 26 #[O U key,ψ A l.length cap]:=Aa.grown (Aa.new w _ _) (World.grownBy_alloc _ _ none) (by simp)
 have kq:Aa ((w.alloc (.cells #[O U key,ψ A l.length cap] 26)).alloc (.cells #[O U t0,O U t1,O U t2,O U t3,O U t4,O U t5,O U t6,φ t7] 94)) (w.1.size + 1) 94 #[O U t0,O U t1,O U t2,O U t3,O U t4,O U t5,O U t6,φ t7]:=by
  have h:=Aa.new (w.alloc (.cells #[O U key,ψ A l.length cap] 26)) 94 #[O U t0,O U t1,O U t2,O U t3,O U t4,O U t5,O U t6,φ t7]
  rwa [show (w.alloc (.cells #[O U key,ψ A l.length cap] 26)).1.size = w.1.size + 1 by simp] at h
 have HA:=hid hA
 have PO:=hid (fun (u:World) (hb:Below w.1.size w u)=>AW key A l cap u hn ((hA.below hb (lr _)).more hb.size))
 have EI:=hid (fun (s lo hi:Int) (z:Bool) (h:InB s lo hi z) (u:World)=>KH s lo hi z u h)
 have ET:=hid (fun (s:Int) (z:Bool) (h:TmB s z) (u:World)=>Rt s z u h)
 have T0:=hid (show TrS w w.1.size (w.1.size + 1) #[O U key,ψ A l.length cap] #[O U t0,O U t1,O U t2,O U t3,O U t4,O U t5,O U t6,φ t7] ⟨w.1.size,0,none⟩ (O U key) ((w.alloc (.cells #[O U key,ψ A l.length cap] 26)).alloc (.cells #[O U t0,O U t1,O U t2,O U t3,O U t4,O U t5,O U t6,φ t7] 94)).drew from ⟨b0.drew,kp.drew,kq.drew,by simp;omega,kp.cell 0⟩)
 have TF:=hid (fun (hb:Below w.1.size w ((w.alloc (.cells #[O U key,ψ A l.length cap] 26)).alloc (.cells #[O U t0,O U t1,O U t2,O U t3,O U t4,O U t5,O U t6,φ t7] 94)))=>(show ∀ (bb oo:Nat) (z:Int),A = some ⟨bb,oo,none⟩ -> bb < w.1.size -> w.cell? ⟨bb,oo + x.toNat,none⟩ = some (O U z) -> TrS w w.1.size (w.1.size + 1) #[O U key,ψ A l.length cap] #[O U t0,O U t1,O U t2,O U t3,O U t4,O U t5,O U t6,φ t7] ⟨bb,oo + x.toNat,none⟩ (O U z) ((w.alloc (.cells #[O U key,ψ A l.length cap] 26)).alloc (.cells #[O U t0,O U t1,O U t2,O U t3,O U t4,O U t5,O U t6,φ t7] 94)).drew from
  fun bb oo z _ hlt hc=>⟨hb.drew,kp.drew,kq.drew,by simp;omega,(hb.cell (p:=⟨bb,oo + x.toNat,none⟩) hlt).trans hc⟩))
 have B0:=hid b0
 have hwl:IntKind.i64.wrap ((l.length:Int) - 1) = l.length - 1:=IntWalk.i64_in _ (by omega)
 clear hA hn b0 kp kq
 go_enter func160,ntmps160
 go_upto_region 1 with fail
 go_cut [42] from 7 (fun s u=>∃ z:Bool,s = φ z /\ (z = false ↔ (Ay key l /\ (0 <= x /\ x < l.length) /\ isTm t0 /\ (0 <= t1 /\ t1 <= 1000) /\ 0 <= t2 /\ t2 <= l.getD x.toNat 0 - 1)) /\ Below w.1.size w u /\ Aa u (w.1.size + 1) 94 #[O U t0,O U t1,O U t2,O U t3,O U t4,O U t5,O U t6,φ t7])
 case first=>
  by_cases hp:Ay key l
  ·by_cases hx:0 <= x /\ x < l.length
   ·obtain ⟨r,rfl⟩:∃ r:Nat,x = r:=⟨x.toNat,by omega⟩
    have hr:r < l.length:=by omega
    have hr':(r:Int) < l.length:=by omega
    have hr0:(0:Int) <= r:=by omega
    obtain ⟨bb,oo,rfl,hbb,hcc⟩:=HA.out r hr
    have hv:=hp.2.2.1 r hr
    have T1:=hid (TF.out B0.out bb oo (l.getD r 0) rfl hbb (by simpa using hcc))
    rw [show ((r:Int)).toNat = r by simp] at T1
    have hi:InB r 0 (l.length - 1) true:=InB.yes (by omega) (by omega)
    obtain ⟨v,hvv⟩:∃ v,v = l.getD r 0:=⟨_,rfl⟩
    rw [<- hvv] at hcc hv T1
    have HV:=hid (show l.getD ((r:Int)).toNat 0 = v by rw [hvv];simp)
    clear hvv
    obtain ⟨v0,v1⟩:=hv
    have hwv:IntKind.i64.wrap (v - 1) = v - 1:=IntWalk.i64_in _ (by omega)
    by_cases h0:isTm t0
    ·have g0:TmB t0 true:=TmB.yes h0
     by_cases h1:0 <= t1 /\ t1 <= 1000
     ·have g1:InB t1 0 1000 true:=InB.yes h1.1 h1.2
      by_cases h2:0 <= t2 /\ t2 <= v - 1
      have z_1:=trivial;rotate_left;have z_2:=trivial;rotate_left
      all_goals
       first
        | guard_hyp z_1
          have g2:InB t2 0 (v - 1) true:=InB.yes h2.1 h2.2
        | have g2:InB t2 0 (v - 1) false:=InB.no h2
       have P1:=hid (fun (u:World) (h:TrS w w.1.size (w.1.size + 1) #[O U key,ψ (some ⟨bb,oo,none⟩) l.length cap] #[O U t0,O U t1,O U t2,O U t3,O U t4,O U t5,O U t6,φ t7] ⟨bb,oo + r,none⟩ (O U v) u)=>(PO.out u h.1).mono (fun e w' ⟨he,hb⟩=>(⟨he,(TrS.keep hb (TrS.cells h)).2⟩:_ /\ TrS w w.1.size (w.1.size + 1) #[O U key,ψ (some ⟨bb,oo,none⟩) l.length cap] #[O U t0,O U t1,O U t2,O U t3,O U t4,O U t5,O U t6,φ t7] ⟨bb,oo + r,none⟩ (O U v) w')))
       rw [CZ hp] at P1
       refine Aw (C:=fun u=>TrS w w.1.size (w.1.size + 1) #[O U key,ψ (some ⟨bb,oo,none⟩) l.length cap] #[O U t0,O U t1,O U t2,O U t3,O U t4,O U t5,O U t6,φ t7] ⟨bb,oo + r,none⟩ (O U v) u) (by kernel_rfl) (by kernel_rfl) T1.out ?_
       iterate 36 (first
        | go_big_quiet_skip
        | (go_big_quiet_want
           go_big_quiet_op
           first
            | go_big_quiet_on
            | (apply Exists.intro
               refine ⟨fun u hu=>?_,?_⟩
               ·first
                  | with_reducible rfl
                  | (go_at_call 71;exact P1.out u hu)
                  | (go_at_call 82;exact BI hu (EI.out _ _ _ _ ‹InB _ _ _ _› u))
                  | (go_at_call 167;exact BI hu (ET.out _ _ ‹TmB _ _› u))
                  | (obtain ⟨⟨e0,e1,e2,e3,e4,e5⟩,-⟩:=TrS.cells hu;go_simp;first | done | with_reducible rfl)
               go_big_quiet_on)))
       refine wpQuiet_nil ?_
       intro wz hz
       go_wp2_with fail
       go_meet
       first
        | guard_hyp z_1
          exact ⟨_,rfl,⟨fun _=>⟨hp,⟨by omega,by omega⟩,h0,h1,by rw [HV.out];exact h2⟩,fun _=>rfl⟩,hz.1,hz.2.2.1⟩
        | exact ⟨_,rfl,⟨fun h=>(by cases h),fun h=>absurd (by have h5:=h.2.2.2.2;rw [HV.out] at h5;exact h5) h2⟩,hz.1,hz.2.2.1⟩
     ·have g1:InB t1 0 1000 false:=InB.no h1
      have P1:=hid (fun (u:World) (h:TrS w w.1.size (w.1.size + 1) #[O U key,ψ (some ⟨bb,oo,none⟩) l.length cap] #[O U t0,O U t1,O U t2,O U t3,O U t4,O U t5,O U t6,φ t7] ⟨bb,oo + r,none⟩ (O U v) u)=>(PO.out u h.1).mono (fun e w' ⟨he,hb⟩=>(⟨he,(TrS.keep hb (TrS.cells h)).2⟩:_ /\ TrS w w.1.size (w.1.size + 1) #[O U key,ψ (some ⟨bb,oo,none⟩) l.length cap] #[O U t0,O U t1,O U t2,O U t3,O U t4,O U t5,O U t6,φ t7] ⟨bb,oo + r,none⟩ (O U v) w')))
      rw [CZ hp] at P1
      refine Aw (C:=fun u=>TrS w w.1.size (w.1.size + 1) #[O U key,ψ (some ⟨bb,oo,none⟩) l.length cap] #[O U t0,O U t1,O U t2,O U t3,O U t4,O U t5,O U t6,φ t7] ⟨bb,oo + r,none⟩ (O U v) u) (by kernel_rfl) (by kernel_rfl) T1.out ?_
      iterate 36 (first
       | go_big_quiet_skip
       | (go_big_quiet_want
          go_big_quiet_op
          first
           | go_big_quiet_on
           | (apply Exists.intro
              refine ⟨fun u hu=>?_,?_⟩
              ·first
                 | with_reducible rfl
                 | (go_at_call 71;exact P1.out u hu)
                 | (go_at_call 82;exact BI hu (EI.out _ _ _ _ ‹InB _ _ _ _› u))
                 | (go_at_call 167;exact BI hu (ET.out _ _ ‹TmB _ _› u))
                 | (obtain ⟨⟨e0,e1,e2,e3,e4,e5⟩,-⟩:=TrS.cells hu;go_simp;first | done | with_reducible rfl)
              go_big_quiet_on)))
      refine wpQuiet_nil ?_
      intro wz hz
      go_wp2_with fail
      go_meet
      exact ⟨_,rfl,⟨fun h=>(by cases h),fun h=>absurd h.2.2.2.1 h1⟩,hz.1,hz.2.2.1⟩
    ·have g0:TmB t0 false:=TmB.no h0
     have P1:=hid (fun (u:World) (h:TrS w w.1.size (w.1.size + 1) #[O U key,ψ (some ⟨bb,oo,none⟩) l.length cap] #[O U t0,O U t1,O U t2,O U t3,O U t4,O U t5,O U t6,φ t7] ⟨bb,oo + r,none⟩ (O U v) u)=>(PO.out u h.1).mono (fun e w' ⟨he,hb⟩=>(⟨he,(TrS.keep hb (TrS.cells h)).2⟩:_ /\ TrS w w.1.size (w.1.size + 1) #[O U key,ψ (some ⟨bb,oo,none⟩) l.length cap] #[O U t0,O U t1,O U t2,O U t3,O U t4,O U t5,O U t6,φ t7] ⟨bb,oo + r,none⟩ (O U v) w')))
     rw [CZ hp] at P1
     refine Aw (C:=fun u=>TrS w w.1.size (w.1.size + 1) #[O U key,ψ (some ⟨bb,oo,none⟩) l.length cap] #[O U t0,O U t1,O U t2,O U t3,O U t4,O U t5,O U t6,φ t7] ⟨bb,oo + r,none⟩ (O U v) u) (by kernel_rfl) (by kernel_rfl) T1.out ?_
     iterate 36 (first
      | go_big_quiet_skip
      | (go_big_quiet_want
         go_big_quiet_op
         first
          | go_big_quiet_on
          | (apply Exists.intro
             refine ⟨fun u hu=>?_,?_⟩
             ·first
                | with_reducible rfl
                | (go_at_call 71;exact P1.out u hu)
                | (go_at_call 82;exact BI hu (EI.out _ _ _ _ ‹InB _ _ _ _› u))
                | (go_at_call 167;exact BI hu (ET.out _ _ ‹TmB _ _› u))
                | (obtain ⟨⟨e0,e1,e2,e3,e4,e5⟩,-⟩:=TrS.cells hu;go_simp;first | done | with_reducible rfl)
             go_big_quiet_on)))
     refine wpQuiet_nil ?_
     intro wz hz
     go_wp2_with fail
     go_meet
     exact ⟨_,rfl,⟨fun h=>(by cases h),fun h=>absurd h.2.2.1 h0⟩,hz.1,hz.2.2.1⟩
   ·have hi:InB x 0 (l.length - 1) false:=InB.no (by omega)
    have P1:=hid (fun (u:World) (h:TrS w w.1.size (w.1.size + 1) #[O U key,ψ A l.length cap] #[O U t0,O U t1,O U t2,O U t3,O U t4,O U t5,O U t6,φ t7] ⟨w.1.size,0,none⟩ (O U key) u)=>(PO.out u h.1).mono (fun e w' ⟨he,hb⟩=>(⟨he,(TrS.keep hb (TrS.cells h)).2⟩:_ /\ TrS w w.1.size (w.1.size + 1) #[O U key,ψ A l.length cap] #[O U t0,O U t1,O U t2,O U t3,O U t4,O U t5,O U t6,φ t7] ⟨w.1.size,0,none⟩ (O U key) w')))
    rw [CZ hp] at P1
    refine Aw (C:=fun u=>TrS w w.1.size (w.1.size + 1) #[O U key,ψ A l.length cap] #[O U t0,O U t1,O U t2,O U t3,O U t4,O U t5,O U t6,φ t7] ⟨w.1.size,0,none⟩ (O U key) u) (by kernel_rfl) (by kernel_rfl) T0.out ?_
    iterate 36 (first
     | go_big_quiet_skip
     | (go_big_quiet_want
        go_big_quiet_op
        first
         | go_big_quiet_on
         | (apply Exists.intro
            refine ⟨fun u hu=>?_,?_⟩
            ·first
               | with_reducible rfl
               | (go_at_call 71;exact P1.out u hu)
               | (go_at_call 82;exact BI hu (EI.out _ _ _ _ ‹InB _ _ _ _› u))
               | (go_at_call 167;exact BI hu (ET.out _ _ ‹TmB _ _› u))
               | (obtain ⟨⟨e0,e1,e2,e3,e4,e5⟩,-⟩:=TrS.cells hu;go_simp;first | done | with_reducible rfl)
            go_big_quiet_on)))
    refine wpQuiet_nil ?_
    intro wz hz
    go_wp2_with fail
    go_meet
    exact ⟨_,rfl,⟨fun h=>(by cases h),fun h=>absurd h.2.1 hx⟩,hz.1,hz.2.2.1⟩
  ·skip
   have P1:=hid (fun (u:World) (h:TrS w w.1.size (w.1.size + 1) #[O U key,ψ A l.length cap] #[O U t0,O U t1,O U t2,O U t3,O U t4,O U t5,O U t6,φ t7] ⟨w.1.size,0,none⟩ (O U key) u)=>(PO.out u h.1).mono (fun e w' ⟨he,hb⟩=>(⟨he,(TrS.keep hb (TrS.cells h)).2⟩:_ /\ TrS w w.1.size (w.1.size + 1) #[O U key,ψ A l.length cap] #[O U t0,O U t1,O U t2,O U t3,O U t4,O U t5,O U t6,φ t7] ⟨w.1.size,0,none⟩ (O U key) w')))
   rw [Dg hp] at P1
   refine Aw (C:=fun u=>TrS w w.1.size (w.1.size + 1) #[O U key,ψ A l.length cap] #[O U t0,O U t1,O U t2,O U t3,O U t4,O U t5,O U t6,φ t7] ⟨w.1.size,0,none⟩ (O U key) u) (by kernel_rfl) (by kernel_rfl) T0.out ?_
   iterate 36 (first
    | go_big_quiet_skip
    | (go_big_quiet_want
       go_big_quiet_op
       first
        | go_big_quiet_on
        | (apply Exists.intro
           refine ⟨fun u hu=>?_,?_⟩
           ·first
              | with_reducible rfl
              | (go_at_call 71;exact P1.out u hu)
              | (go_at_call 82;exact BI hu (EI.out _ _ _ _ ‹InB _ _ _ _› u))
              | (go_at_call 167;exact BI hu (ET.out _ _ ‹TmB _ _› u))
              | (obtain ⟨⟨e0,e1,e2,e3,e4,e5⟩,-⟩:=TrS.cells hu;go_simp;first | done | with_reducible rfl)
           go_big_quiet_on)))
   refine wpQuiet_nil ?_
   intro wz hz
   go_wp2_with fail
   go_meet
   exact ⟨_,rfl,⟨fun h=>(by cases h),fun h=>absurd h.1 hp⟩,hz.1,hz.2.2.1⟩
 case rest=>
 obtain ⟨z,rfl,hz,hb,hq⟩:=hcut
 have HBW:=hid hb
 have q2:wc.cell? ⟨w.1.size + 1,2,none⟩ = some (O U t2):=hq.cell 2
 have q3:wc.cell? ⟨w.1.size + 1,3,none⟩ = some (O U t3):=hq.cell 3
 have q4:wc.cell? ⟨w.1.size + 1,4,none⟩ = some (O U t4):=hq.cell 4
 have q5:wc.cell? ⟨w.1.size + 1,5,none⟩ = some (O U t5):=hq.cell 5
 have q6:wc.cell? ⟨w.1.size + 1,6,none⟩ = some (O U t6):=hq.cell 6
 clear hb hq PO EI ET T0 TF HA
 rcases z with _ | _
 ·have hG:=hz.1 rfl
  clear hz
  by_cases c2:t2 = 0
  ·skip
   by_cases c5:t5 = 0
   ·skip
    by_cases c6:t6 = 0
    ·subst c2 c5 c6
     have s0:AU 0:=⟨by omega,by omega⟩
     by_cases s3:AU t3
     ·by_cases s4:AU t4
      ·skip
       go_wp2_with fail
       refine (Db t3 true _ (SumB.yes s3)).mono ?_;rintro e w' ⟨rfl,rfl⟩
       go_wp2_with fail
       refine (Db t4 true _ (SumB.yes s4)).mono ?_;rintro e w' ⟨rfl,rfl⟩
       go_wp2_with fail
       refine (Db 0 true _ (SumB.yes s0)).mono ?_;rintro e w' ⟨rfl,rfl⟩
       go_wp2_with fail
       refine (Db 0 true _ (SumB.yes s0)).mono ?_;rintro e w' ⟨rfl,rfl⟩
       go_wp2_with fail
       go_ret
       exact ⟨by rw [Co ⟨hG.1,hG.2.1,hG.2.2.1,hG.2.2.2.1,hG.2.2.2.2,(fun _=>⟨rfl,rfl⟩),s3,s4,s0,s0⟩];rfl,HBW.out⟩
      ·skip
       go_wp2_with fail
       refine (Db t3 true _ (SumB.yes s3)).mono ?_;rintro e w' ⟨rfl,rfl⟩
       go_wp2_with fail
       refine (Db t4 false _ (SumB.no s4)).mono ?_;rintro e w' ⟨rfl,rfl⟩
       go_wp2_with fail
       go_ret
       exact ⟨by rw [CD (fun h=>s4 h.2.2.2.2.2.2.2.1)];rfl,HBW.out⟩
     ·skip
      go_wp2_with fail
      refine (Db t3 false _ (SumB.no s3)).mono ?_;rintro e w' ⟨rfl,rfl⟩
      go_wp2_with fail
      go_ret
      exact ⟨by rw [CD (fun h=>s3 h.2.2.2.2.2.2.1)];rfl,HBW.out⟩
    ·have c6':(t6 == 0) = false:=by simpa using c6
     go_wp2_with fail
     go_ret
     exact ⟨by rw [CD (fun h=>c6 (h.2.2.2.2.2.1 c2).2)];rfl,HBW.out⟩
   ·have c5':(t5 == 0) = false:=by simpa using c5
    go_wp2_with fail
    go_ret
    exact ⟨by rw [CD (fun h=>c5 (h.2.2.2.2.2.1 c2).1)];rfl,HBW.out⟩
  ·have c2':(t2 == 0) = false:=by simpa using c2
   by_cases s3:AU t3
   ·by_cases s4:AU t4
    ·by_cases s5:AU t5
     ·by_cases s6:AU t6
      have z_3:=trivial;rotate_left;have z_4:=trivial;rotate_left
      all_goals
       skip
       go_wp2_with fail
       refine (Db t3 true _ (SumB.yes s3)).mono ?_;rintro e w' ⟨rfl,rfl⟩
       go_wp2_with fail
       refine (Db t4 true _ (SumB.yes s4)).mono ?_;rintro e w' ⟨rfl,rfl⟩
       go_wp2_with fail
       refine (Db t5 true _ (SumB.yes s5)).mono ?_;rintro e w' ⟨rfl,rfl⟩
       go_wp2_with fail
       first
        | guard_hyp z_3
          refine (Db t6 true _ (SumB.yes s6)).mono ?_;rintro e w' ⟨rfl,rfl⟩
        | refine (Db t6 false _ (SumB.no s6)).mono ?_;rintro e w' ⟨rfl,rfl⟩
       go_wp2_with fail
       go_ret
       first
        | guard_hyp z_3
          exact ⟨by rw [Co ⟨hG.1,hG.2.1,hG.2.2.1,hG.2.2.2.1,hG.2.2.2.2,(fun h=>absurd h c2),s3,s4,s5,s6⟩];rfl,HBW.out⟩
        | exact ⟨by rw [CD (fun h=>s6 h.2.2.2.2.2.2.2.2.2)];rfl,HBW.out⟩
     ·skip
      go_wp2_with fail
      refine (Db t3 true _ (SumB.yes s3)).mono ?_;rintro e w' ⟨rfl,rfl⟩
      go_wp2_with fail
      refine (Db t4 true _ (SumB.yes s4)).mono ?_;rintro e w' ⟨rfl,rfl⟩
      go_wp2_with fail
      refine (Db t5 false _ (SumB.no s5)).mono ?_;rintro e w' ⟨rfl,rfl⟩
      go_wp2_with fail
      go_ret
      exact ⟨by rw [CD (fun h=>s5 h.2.2.2.2.2.2.2.2.1)];rfl,HBW.out⟩
    ·skip
     go_wp2_with fail
     refine (Db t3 true _ (SumB.yes s3)).mono ?_;rintro e w' ⟨rfl,rfl⟩
     go_wp2_with fail
     refine (Db t4 false _ (SumB.no s4)).mono ?_;rintro e w' ⟨rfl,rfl⟩
     go_wp2_with fail
     go_ret
     exact ⟨by rw [CD (fun h=>s4 h.2.2.2.2.2.2.2.1)];rfl,HBW.out⟩
   ·skip
    go_wp2_with fail
    refine (Db t3 false _ (SumB.no s3)).mono ?_;rintro e w' ⟨rfl,rfl⟩
    go_wp2_with fail
    go_ret
    exact ⟨by rw [CD (fun h=>s3 h.2.2.2.2.2.2.1)];rfl,HBW.out⟩
 ·have hG:¬ Bk key l x ⟨t0,t1,t2,t3,t4,t5,t6,t7⟩:=fun h=>by
    have:=hz.2 ⟨h.1,h.2.1,h.2.2.1,h.2.2.2.1,h.2.2.2.2.1⟩
    cases this
  go_wp2_with fail
  go_ret
  exact ⟨by rw [CD hG];rfl,HBW.out⟩

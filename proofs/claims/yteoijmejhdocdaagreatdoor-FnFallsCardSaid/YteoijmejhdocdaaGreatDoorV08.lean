import Derived.Test.YteoijmejhdocdaaGreatDoorV07
namespace Go.Proofs.YteoijmejhdocdaaGreatDoor.Mx
open Go.ChangeShapes Go.WideShapes Go.ChangeAt Go.RowKit
set_option linter.unusedVariables false
open Go.Lib (hid)
open Go.Proofs.Tryz
set_option maxRecDepth 20000
set_option maxHeartbeats 64000000
open Value renaming int → O, slice → ψ, bool → φ, agg → σ
open IntKind renaming i64 → U
open Ending renaming returned → τ
theorem Od (e_:Int) (w:World) (h:0 <= e_ /\ e_ <= 1000):Calls prog 244 #[O U e_] w fun e w'=>e = τ (φ true) /\ w = w':=by
 obtain ⟨h0,h1⟩:=h
 go_enter func244,ntmps244
 go_wp2_with fail
 go_ret
 exact ⟨rfl,rfl⟩
theorem Pa (e_:Int) (w:World) (h:¬ (0 <= e_ /\ e_ <= 1000)):Calls prog 244 #[O U e_] w fun e w'=>e = τ (φ false) /\ w = w':=by
 by_cases h0:0 <= e_
 ·have h1:¬ e_ <= 1000:=by omega
  have hd:decide (e_ <= 1000) = false:=decide_eq_false h1
  clear h
  go_enter func244,ntmps244
  go_wp2_with fail
  go_ret
  exact ⟨rfl,rfl⟩
 ·have hd:decide (0 <= e_) = false:=decide_eq_false h0
  clear h
  go_enter func244,ntmps244
  go_wp2_with fail
  go_ret
  exact ⟨rfl,rfl⟩
theorem Er (s:Int) (w:World) (h:AU s):Calls prog 261 #[O U s] w fun e w'=>e = τ (φ true) /\ w = w':=Qo s w h.1 h.2
theorem Fl (s:Int) (w:World) (h:¬ AU s):Calls prog 261 #[O U s] w fun e w'=>e = τ (φ false) /\ w = w':=RA s w (by unfold AU at h;omega)
def Fu (t2 t3 t4 t5 t6:Int):Prop:=(t2 = 0 -> t5 = 0 /\ t6 = 0) /\ AU t3 /\ AU t4 /\ AU t5 /\ AU t6
instance (t2 t3 t4 t5 t6:Int):Decidable (Fu t2 t3 t4 t5 t6):=inferInstanceAs (Decidable (_ /\ _))
theorem Nu (p:Nat) (t0 t1 t2 t3 t4 t5 t6:Int) (t7:Bool) (w:World) (hp:Aa w p 94 #[O U t0,O U t1,O U t2,O U t3,O U t4,O U t5,O U t6,φ t7]):
    Calls prog 245 #[.pointer (some ⟨p,0,none⟩)] w fun e w'=>e = τ (φ (decide (Fu t2 t3 t4 t5 t6))) /\ w = w':=by
 have kc:∀ i,w.cell? ⟨p,i,none⟩ = #[O U t0,O U t1,O U t2,O U t3,O U t4,O U t5,O U t6,φ t7][i]?:=hp.cell
 clear hp
 by_cases h2:t2 = 0
 ·subst h2
  by_cases h5:t5 = 0
  ·subst h5
   by_cases h6:t6 = 0
   ·subst h6
    have s5:=hid (show AU 0 by decide)
    have s6:=hid (show AU 0 by decide)
    have C5:=hid (fun w=>Er 0 w (by decide))
    by_cases s3_:AU t3
    ·have s3:=hid s3_;have C3:=hid (fun w=>Er t3 w s3_);clear s3_
     by_cases s4_:AU t4
     ·have s4:=hid s4_;have C4:=hid (fun w=>Er t4 w s4_);clear s4_
      rw [decide_eq_true (show Fu _ _ _ _ _ from ⟨fun _=>⟨rfl,rfl⟩,s3.out,s4.out,s5.out,s6.out⟩)]
      go_enter func245,ntmps245
      go_wp2_with fail
      refine (C3.out _).mono ?_;rintro e w' ⟨rfl,rfl⟩
      go_wp2_with fail
      refine (C4.out _).mono ?_;rintro e w' ⟨rfl,rfl⟩
      go_wp2_with fail
      refine (C5.out _).mono ?_;rintro e w' ⟨rfl,rfl⟩
      go_wp2_with fail
      refine (C5.out _).mono ?_;rintro e w' ⟨rfl,rfl⟩
      go_wp2_with fail
      go_ret
      exact ⟨rfl,rfl⟩
     ·have s4:=hid s4_;have C4:=hid (fun w=>Fl t4 w s4_);clear s4_
      rw [decide_eq_false (show ¬ Fu _ _ _ _ _ from fun h=>s4.out h.2.2.1)]
      go_enter func245,ntmps245
      go_wp2_with fail
      refine (C3.out _).mono ?_;rintro e w' ⟨rfl,rfl⟩
      go_wp2_with fail
      refine (C4.out _).mono ?_;rintro e w' ⟨rfl,rfl⟩
      go_wp2_with fail
      go_ret
      exact ⟨rfl,rfl⟩
    ·have s3:=hid s3_;have C3:=hid (fun w=>Fl t3 w s3_);clear s3_
     rw [decide_eq_false (show ¬ Fu _ _ _ _ _ from fun h=>s3.out h.2.1)]
     go_enter func245,ntmps245
     go_wp2_with fail
     refine (C3.out _).mono ?_;rintro e w' ⟨rfl,rfl⟩
     go_wp2_with fail
     go_ret
     exact ⟨rfl,rfl⟩
   ·have n6:(t6 != 0) = true:=by simpa using h6
    have N6:=hid h6
    clear h6
    rw [decide_eq_false (show ¬ Fu _ _ _ _ _ from fun h=>N6.out (h.1 rfl).2)]
    go_enter func245,ntmps245
    go_wp2_with fail
    go_ret
    exact ⟨rfl,rfl⟩
  ·have n5:(t5 != 0) = true:=by simpa using h5
   have N5:=hid h5
   clear h5
   rw [decide_eq_false (show ¬ Fu _ _ _ _ _ from fun h=>N5.out (h.1 rfl).1)]
   go_enter func245,ntmps245
   go_wp2_with fail
   go_ret
   exact ⟨rfl,rfl⟩
 ·have n2:(t2 == 0) = false:=by simpa using h2
  have N2:=hid h2
  clear h2
  by_cases s3_:AU t3
  ·have s3:=hid s3_;have C3:=hid (fun w=>Er t3 w s3_);clear s3_
   by_cases s4_:AU t4
   ·have s4:=hid s4_;have C4:=hid (fun w=>Er t4 w s4_);clear s4_
    by_cases s5_:AU t5
    ·have s5:=hid s5_;have C5:=hid (fun w=>Er t5 w s5_);clear s5_
     by_cases s6_:AU t6
     have z_1:=trivial;rotate_left;have z_2:=trivial;rotate_left
     all_goals
      first
       | guard_hyp z_1
         have s6:=hid s6_;have C6:=hid (fun w=>Er t6 w s6_);clear s6_
         rw [decide_eq_true (show Fu _ _ _ _ _ from ⟨fun h=>absurd h N2.out,s3.out,s4.out,s5.out,s6.out⟩)]
       | have s6:=hid s6_;have C6:=hid (fun w=>Fl t6 w s6_);clear s6_
         rw [decide_eq_false (show ¬ Fu _ _ _ _ _ from fun h=>s6.out h.2.2.2.2)]
      go_enter func245,ntmps245
      go_wp2_with fail
      refine (C3.out _).mono ?_;rintro e w' ⟨rfl,rfl⟩
      go_wp2_with fail
      refine (C4.out _).mono ?_;rintro e w' ⟨rfl,rfl⟩
      go_wp2_with fail
      refine (C5.out _).mono ?_;rintro e w' ⟨rfl,rfl⟩
      go_wp2_with fail
      refine (C6.out _).mono ?_;rintro e w' ⟨rfl,rfl⟩
      go_wp2_with fail
      go_ret
      exact ⟨rfl,rfl⟩
    ·have s5:=hid s5_;have C5:=hid (fun w=>Fl t5 w s5_);clear s5_
     rw [decide_eq_false (show ¬ Fu _ _ _ _ _ from fun h=>s5.out h.2.2.2.1)]
     go_enter func245,ntmps245
     go_wp2_with fail
     refine (C3.out _).mono ?_;rintro e w' ⟨rfl,rfl⟩
     go_wp2_with fail
     refine (C4.out _).mono ?_;rintro e w' ⟨rfl,rfl⟩
     go_wp2_with fail
     refine (C5.out _).mono ?_;rintro e w' ⟨rfl,rfl⟩
     go_wp2_with fail
     go_ret
     exact ⟨rfl,rfl⟩
   ·have s4:=hid s4_;have C4:=hid (fun w=>Fl t4 w s4_);clear s4_
    rw [decide_eq_false (show ¬ Fu _ _ _ _ _ from fun h=>s4.out h.2.2.1)]
    go_enter func245,ntmps245
    go_wp2_with fail
    refine (C3.out _).mono ?_;rintro e w' ⟨rfl,rfl⟩
    go_wp2_with fail
    refine (C4.out _).mono ?_;rintro e w' ⟨rfl,rfl⟩
    go_wp2_with fail
    go_ret
    exact ⟨rfl,rfl⟩
  ·have s3:=hid s3_;have C3:=hid (fun w=>Fl t3 w s3_);clear s3_
   rw [decide_eq_false (show ¬ Fu _ _ _ _ _ from fun h=>s3.out h.2.1)]
   go_enter func245,ntmps245
   go_wp2_with fail
   refine (C3.out _).mono ?_;rintro e w' ⟨rfl,rfl⟩
   go_wp2_with fail
   go_ret
   exact ⟨rfl,rfl⟩
def Fx (n t0 t1 t2 t3 t4 t5 t6:Int):Prop:=isTm t0 /\ (0 <= t1 /\ t1 <= 1000) /\ 0 <= t2 /\ t2 < n /\ Fu t2 t3 t4 t5 t6
instance (n t0 t1 t2 t3 t4 t5 t6:Int):Decidable (Fx n t0 t1 t2 t3 t4 t5 t6):=inferInstanceAs (Decidable (_ /\ _))
theorem NU (p:Nat) (n t0 t1 t2 t3 t4 t5 t6:Int) (t7:Bool) (w:World) (hp:Aa w p 94 #[O U t0,O U t1,O U t2,O U t3,O U t4,O U t5,O U t6,φ t7]):
    Calls prog 217 #[.pointer (some ⟨p,0,none⟩),O U n] w fun e w'=>e = τ (φ (decide (Fx n t0 t1 t2 t3 t4 t5 t6))) /\ w = w':=by
 have kc:∀ i,w.cell? ⟨p,i,none⟩ = #[O U t0,O U t1,O U t2,O U t3,O U t4,O U t5,O U t6,φ t7][i]?:=hp.cell
 by_cases h0:isTm t0
 ·have H0:=hid h0;have CT:=hid (fun w=>Lo t0 w h0);clear h0
  by_cases h1:0 <= t1 /\ t1 <= 1000
  ·have H1:=hid h1;have CE:=hid (fun w=>Od t1 w h1);clear h1
   by_cases h2:0 <= t2
   ·by_cases h3:t2 < n
    ·have hd0:decide (0 <= t2) = true:=decide_eq_true h2
     have hd1:decide (t2 < n) = true:=decide_eq_true h3
     have H2:=hid h2;have H3:=hid h3
     have CS:=hid (fun u (h:Aa u p 94 #[O U t0,O U t1,O U t2,O U t3,O U t4,O U t5,O U t6,φ t7])=>Nu p t0 t1 t2 t3 t4 t5 t6 t7 u h)
     have HP:=hid hp
     clear hp
     by_cases h4:Fu t2 t3 t4 t5 t6
     have z_1:=trivial;rotate_left;have z_2:=trivial;rotate_left
     all_goals
      first
       | guard_hyp z_1
         rw [decide_eq_true h4] at CS
       | rw [decide_eq_false h4] at CS
      have H4:=hid h4
      clear h4
      first
       | guard_hyp z_1
         rw [decide_eq_true (show Fx _ _ _ _ _ _ _ _ from ⟨H0.out,H1.out,H2.out,H3.out,H4.out⟩)]
       | rw [decide_eq_false (show ¬ Fx _ _ _ _ _ _ _ _ from fun h=>H4.out h.2.2.2.2)]
      go_enter func217,ntmps217
      go_wp2_with fail
      refine (CT.out _).mono ?_;rintro e w' ⟨rfl,rfl⟩
      go_wp2_with fail
      refine (CE.out _).mono ?_;rintro e w' ⟨rfl,rfl⟩
      go_wp2_with fail
      refine (CS.out _ HP.out).mono ?_;rintro e w' ⟨rfl,rfl⟩
      go_wp2_with fail
      go_ret
      exact ⟨rfl,rfl⟩
    ·have hd0:decide (0 <= t2) = true:=decide_eq_true h2
     have hd1:decide (t2 < n) = false:=decide_eq_false h3
     have H3:=hid h3
     rw [decide_eq_false (show ¬ Fx _ _ _ _ _ _ _ _ from fun h=>H3.out h.2.2.2.1)]
     go_enter func217,ntmps217
     go_wp2_with fail
     refine (CT.out _).mono ?_;rintro e w' ⟨rfl,rfl⟩
     go_wp2_with fail
     refine (CE.out _).mono ?_;rintro e w' ⟨rfl,rfl⟩
     go_wp2_with fail
     go_ret
     exact ⟨rfl,rfl⟩
   ·have hd0:decide (0 <= t2) = false:=decide_eq_false h2
    have H3:=hid h2
    rw [decide_eq_false (show ¬ Fx _ _ _ _ _ _ _ _ from fun h=>H3.out h.2.2.1)]
    go_enter func217,ntmps217
    go_wp2_with fail
    refine (CT.out _).mono ?_;rintro e w' ⟨rfl,rfl⟩
    go_wp2_with fail
    refine (CE.out _).mono ?_;rintro e w' ⟨rfl,rfl⟩
    go_wp2_with fail
    go_ret
    exact ⟨rfl,rfl⟩
  ·have H1:=hid h1;have CE:=hid (fun w=>Pa t1 w h1);clear h1
   rw [decide_eq_false (show ¬ Fx _ _ _ _ _ _ _ _ from fun h=>H1.out h.2.1)]
   go_enter func217,ntmps217
   go_wp2_with fail
   refine (CT.out _).mono ?_;rintro e w' ⟨rfl,rfl⟩
   go_wp2_with fail
   refine (CE.out _).mono ?_;rintro e w' ⟨rfl,rfl⟩
   go_wp2_with fail
   go_ret
   exact ⟨rfl,rfl⟩
 ·have H0:=hid h0;have CT:=hid (fun w=>MH t0 w h0);clear h0
  rw [decide_eq_false (show ¬ Fx _ _ _ _ _ _ _ _ from fun h=>H0.out h.1)]
  go_enter func217,ntmps217
  go_wp2_with fail
  refine (CT.out _).mono ?_;rintro e w' ⟨rfl,rfl⟩
  go_wp2_with fail
  go_ret
  exact ⟨rfl,rfl⟩
theorem IT (key x:Int) (A:Option Addr) (l:List Int) (cap:Nat) (t0 t1 t2 t3 t4 t5 t6:Int) (t7:Bool) (w:World) (hn:l.length <= 1048576) (hcap:l.length <= cap) (hA:Ints w U w.1.size A l):
    Calls prog 153 #[σ #[O U key,ψ A l.length cap],O U x,σ #[O U t0,O U t1,O U t2,O U t3,O U t4,O U t5,O U t6,φ t7]] w fun e w'=>e = τ (φ (Gt key l x ⟨t0,t1,t2,t3,t4,t5,t6,t7⟩)) /\ Below w.1.size w w':=by
 have hm:l.length <= maxLen:=by unfold maxLen;omega
 have F0:=fun (u:World) (hb:Below w.1.size w u)=>LT key x A l cap u hm hcap ((hA.below hb (lr _)).more hb.size)
 by_cases hf:0 <= Ad key l x
 ·have hpr:Ay key l /\ 0 <= x /\ x < l.length:=by
    refine Classical.byContradiction fun h=>?_
    unfold Ad at hf
    rw [if_neg h] at hf
    omega
  obtain ⟨r,rfl⟩:∃ r:Nat,x = r:=⟨x.toNat,by omega⟩
  have hr:r < l.length:=by omega
  obtain ⟨bb,oo,rfl,hbb,hcc⟩:=hA r hr
  have K0:=hid (show Kept w [(w.1.size + 1,94,#[O U t0,O U t1,O U t2,O U t3,O U t4,O U t5,O U t6,φ t7]),(w.1.size,26,#[O U key,ψ (some ⟨bb,oo,none⟩) l.length cap])] _ from (((Kept.refl w).put1 _ _ #[O U key,ψ (some ⟨bb,oo,none⟩) l.length cap] rfl).put1 _ _ #[O U t0,O U t1,O U t2,O U t3,O U t4,O U t5,O U t6,φ t7] (by simp)))
  have hd:decide (0 <= Ad key l (r:Int)) = true:=decide_eq_true hf
  have hi1:(r:Int) < l.length:=by omega
  have hi0:(0:Int) <= r:=by omega
  have HC:=hid (fun (u:World) (hb:Below w.1.size w u)=>(hb.cell (p:=⟨bb,oo + r,none⟩) hbb).trans hcc)
  have ev:l.getD ((r:Int)).toNat 0 = l.getD r 0:=by rw [Int.toNat_natCast]
  have HT:=hid (show Gt key l (r:Int) ⟨t0,t1,t2,t3,t4,t5,t6,t7⟩ = decide (Fx (l.getD r 0) t0 t1 t2 t3 t4 t5 t6) from by
   unfold Gt
   congr 1
   unfold Bk Fx Fu
   rw [ev]
   simp only [eq_iff_iff]
   constructor
   ·rintro ⟨_,_,a,b,⟨c,d⟩,e,f⟩;exact ⟨a,b,c,by omega,e,f⟩
   ·rintro ⟨a,b,c,d,e,f⟩;exact ⟨hpr.1,hpr.2,a,b,⟨c,by omega⟩,e,f⟩)
  have SC:=hid (fun u (h:Aa u (w.1.size + 1) 94 #[O U t0,O U t1,O U t2,O U t3,O U t4,O U t5,O U t6,φ t7])=>NU (w.1.size + 1) (l.getD r 0) t0 t1 t2 t3 t4 t5 t6 t7 u h)
  have F:=hid F0
  generalize Ad key l (r:Int) = f at F hd
  generalize l.getD r 0 = v at HC SC HT
  generalize decide (Fx v t0 t1 t2 t3 t4 t5 t6) = z at SC HT
  clear hf hpr hr hcc ev hA F0 hm
  go_enter func153,ntmps153
  go_wp2_with fail
  refine (F.out _ K0.out.1).mono ?_;rintro e u1 ⟨rfl,hb⟩
  have hk1:=K0.out.below hb
  have cc:=HC.out _ hk1.1
  have kz:=hk1.at_ (p:=w.1.size + 1) (t:=94) (cs:=#[O U t0,O U t1,O U t2,O U t3,O U t4,O U t5,O U t6,φ t7]) (by simp)
  have KZ:=hid kz
  have BL:=hid hk1.1
  obtain ⟨X0,Y0,X1,Y1,-⟩:=hk1.rd
  clear hb hk1 kz F K0
  go_wp2_with fail
  refine (SC.out _ KZ.out).mono ?_;rintro e u2 ⟨rfl,rfl⟩
  go_wp2_with fail
  go_ret
  exact ⟨by rw [HT.out];rfl,BL.out⟩
 ·have K0:=hid (show Kept w [(w.1.size + 1,94,#[O U t0,O U t1,O U t2,O U t3,O U t4,O U t5,O U t6,φ t7]),(w.1.size,26,#[O U key,ψ A l.length cap])] _ from (((Kept.refl w).put1 _ _ #[O U key,ψ A l.length cap] rfl).put1 _ _ #[O U t0,O U t1,O U t2,O U t3,O U t4,O U t5,O U t6,φ t7] (by simp)))
  have hd:decide (0 <= Ad key l x) = false:=decide_eq_false hf
  have HT:=hid (show Gt key l x ⟨t0,t1,t2,t3,t4,t5,t6,t7⟩ = false from CD (fun h=>hf (by
   have hp:=h.1;have hx:=h.2.1
   unfold Ad
   rw [if_pos ⟨hp,hx⟩]
   exact (Dl hp.2.2.1 (k:=x.toNat) (by omega)).1)))
  have F:=hid F0
  generalize Ad key l x = f at F hd
  clear hf hA F0 hm
  go_enter func153,ntmps153
  go_wp2_with fail
  refine (F.out _ K0.out.1).mono ?_;rintro e u1 ⟨rfl,hb⟩
  have BL:=hid (K0.out.below hb).1
  clear hb F K0
  go_wp2_with fail
  go_ret
  exact ⟨by rw [HT.out];rfl,BL.out⟩
theorem FQ (n:Int) (w:World) (hn:I64 n):
    Calls prog 78 #[O U n] w fun e w'=>e = τ (φ (decide (0 <= n /\ n <= 10000))) /\ w = w':=by
 obtain ⟨m0,m1⟩:=hn
 by_cases h0:0 <= n
 ·by_cases h1:n <= 10000
  ·rw [decide_eq_true ⟨h0,h1⟩]
   go_enter func78,ntmps78
   go_wp2
   go_ret
   exact ⟨rfl,rfl⟩
  ·rw [decide_eq_false (fun h=>h1 h.2)]
   have h2:10000 < n:=by omega
   go_enter func78,ntmps78
   go_wp2
   go_ret
   exact ⟨rfl,rfl⟩
 ·rw [decide_eq_false (fun h=>h0 h.1)]
  have h2:n < 0:=by omega
  go_enter func78,ntmps78
  go_wp2
  go_ret
  exact ⟨rfl,rfl⟩
theorem Lt (b:Bool) (w:World):Calls prog 239 #[φ b] w fun e w'=>e = τ (O U (Cd b)) /\ w = w':=by
 cases b
 all_goals
  go_enter func239,ntmps239
  go_wp2
  go_ret
  exact ⟨rfl,rfl⟩
theorem Gc (key:Int) (A C:Option Addr) (l:List Int) (cap:Nat) (hcap:l.length <= cap) (L:List Tru) (cap2:Nat) (w:World) (hn:l.length <= 1048576) (hA:Ints w U w.1.size A l) (hN:L.length <= maxLen) (hC:Trs w w.1.size C L):
    Calls prog 75 #[σ #[O U key,ψ A l.length cap],ψ C L.length cap2] w fun e w'=>e = τ (φ (Dj key l L)) /\ Below w.1.size w w':=by
 have K0:=hid (show Kept w [(w.1.size,26,#[O U key,ψ A l.length cap])] _ from (Kept.refl w).put1 _ _ #[O U key,ψ A l.length cap] rfl)
 have hm2:l.length <= maxLen:=by unfold maxLen;omega
 have PO:=hid (fun (u:World) (hb:Below w.1.size w u)=>EL key A l cap u hm2 hcap ((hA.below hb (lr _)).more hb.size))
 have TO:=hid (fun (t:Tru) (x:Int) (u:World) (hb:Below w.1.size w u)=>IT key x A l cap t.clock t.epoch t.cursor t.read t.written t.nread t.nwritten t.failed u hn hcap ((hA.below hb (lr _)).more hb.size))
 have HC:=hid hC
 have hm:=hN
 unfold maxLen at hm hm2
 clear hA hC hN hcap
 by_cases hp:Ay key l
 ·rw [CZ hp] at PO
  by_cases hln:L.length = l.length
  ·have hbl:((L.length:Int) == (l.length:Int)) = true:=beq_iff_eq.2 (by omega)
   have hbn:((L.length:Int) != (l.length:Int)) = false:=by rw [bne,hbl];rfl
   have HP:=hid hp
   have HL:=hid hln
   clear hp hln
   go_enter func75,ntmps75
   go_wp2_with fail
   refine (PO.out _ K0.out.1).mono ?_;rintro e w1 ⟨rfl,b1⟩
   have h1:=K0.out.below b1
   clear b1 K0
   obtain ⟨X0,Y0,-⟩:=h1.rd
   have H1:=hid h1
   clear h1
   go_wp2_with fail
   clear X0 Y0
   go_loopw [20] (fun i wr=>∃ k:Nat,k <= L.length /\ i = O U k /\ Nm key l L k /\ Kept w [(w.1.size,26,#[O U key,ψ A l.length cap])] wr) (fun i _=>L.length - (intOf i).toNat)
   case atStart=>exact ⟨0,Nat.zero_le _,rfl,fun i hi=>absurd hi (by omega),H1.out⟩
   case round=>
    obtain ⟨k,hk,rfl,hup,hz⟩:=hrel
    have HU:=hid hup
    clear hup
    by_cases hlt:k < L.length
    ·obtain ⟨b,off,rfl,hb,hc⟩:=HC.out.at_ hlt
     have hlt':(k:Int) < L.length:=by omega
     have hk0:(0:Int) <= k:=by omega
     have TB:=hid (TO.out (L.getD k default) k)
     obtain ⟨c0,c1,c2,c3,c4,c5,c6,c7⟩:=hc.below hz.1 hb
     by_cases hok:Bk key l k (L.getD k default)
     have z_1:=trivial;rotate_left;have z_2:=trivial;rotate_left
     all_goals
      first
       | guard_hyp z_1
         have NX:=hid (show Nm key l L (k + 1) from fun i hi=>by
          rcases Nat.lt_or_ge i k with h | h
          ·exact HU.out i h
          ·obtain rfl:i = k:=by omega
           exact hok)
         rw [show (⟨(L.getD k default).clock,(L.getD k default).epoch,(L.getD k default).cursor,(L.getD k default).read,(L.getD k default).written,(L.getD k default).nread,(L.getD k default).nwritten,(L.getD k default).failed⟩:Tru) = L.getD k default from rfl,Co hok] at TB
       | rw [show (⟨(L.getD k default).clock,(L.getD k default).epoch,(L.getD k default).cursor,(L.getD k default).read,(L.getD k default).written,(L.getD k default).nread,(L.getD k default).nwritten,(L.getD k default).failed⟩:Tru) = L.getD k default from rfl,CD hok] at TB
         have HX:=hid (CX (l:=l) (L:=L) (key:=key) (fun h=>hok (h.2.2 k hlt)))
      clear hok HU hc
      generalize L.getD k default = t at c0 c1 c2 c3 c4 c5 c6 c7 TB
      go_upto_region 6 with fail
      have hz2:=hz.put1 wr.1.size 94 #[O U t.clock,O U t.epoch,O U t.cursor,O U t.read,O U t.written,O U t.nread,O U t.nwritten,φ t.failed] rfl
      obtain ⟨X0,Y0,X1,Y1,-⟩:=hz2.rd
      have HZ:=hid hz2
      clear hz hz2 c0 c1 c2 c3 c4 c5 c6 c7
      go_wp2_with fail
      refine (TB.out _ HZ.out.1).mono ?_;rintro e w2 ⟨rfl,b2⟩
      first
       | guard_hyp z_1
         have hz3:=(HZ.out.below b2).sub (L':=[(w.1.size,26,#[O U key,ψ A l.length cap])]) (by intro y hy;simp at hy |-;right;exact hy)
       | have hz3:=HZ.out.below b2
      clear b2 X0 Y0 X1 Y1 HZ
      go_wp2_with fail
      first
       | guard_hyp z_1
         go_roundw
         case rel=>exact ⟨k + 1,by omega,by go_num,NX.out,hz3⟩
         case measure=>simp [intOf];omega
       | go_ret
         exact ⟨by rw [HX.out];rfl,hz3.1⟩
    ·have hk':k = L.length:=by omega
     subst hk'
     have HX:=hid (DQ (show Ba key l L from ⟨HP.out,HL.out,HU.out⟩))
     go_wp2_with fail
     go_ret
     exact ⟨by rw [HX.out];rfl,hz.1⟩
  ·have hbl:((L.length:Int) == (l.length:Int)) = false:=beq_false_of_ne (by omega)
   have hbn:((L.length:Int) != (l.length:Int)) = true:=by rw [bne,hbl];rfl
   have HX:=hid (CX (show ¬ Ba key l L from fun h=>hln h.2.1))
   clear hp hln
   go_enter func75,ntmps75
   go_wp2_with fail
   refine (PO.out _ K0.out.1).mono ?_;rintro e w1 ⟨rfl,b1⟩
   have h1:=K0.out.below b1
   clear b1 K0
   obtain ⟨X0,Y0,-⟩:=h1.rd
   have H1:=hid h1
   clear h1
   go_wp2_with fail
   go_ret
   exact ⟨by rw [HX.out];rfl,H1.out.1⟩
 ·rw [Dg hp] at PO
  have HX:=hid (CX (show ¬ Ba key l L from fun h=>hp h.1))
  clear hp
  go_enter func75,ntmps75
  go_wp2_with fail
  refine (PO.out _ K0.out.1).mono ?_;rintro e w1 ⟨rfl,b1⟩
  have h1:=K0.out.below b1
  clear b1 K0
  have H1:=hid h1
  clear h1
  go_wp2_with fail
  go_ret
  exact ⟨by rw [HX.out];rfl,H1.out.1⟩
theorem Jp:∃ i,prog.info? 94 = some i /\ i.zero = some (σ #[O U 0,O U 0,O U 0,O U 0,O U 0,O U 0,O U 0,φ false]) /\ i.size = 8 /\ i.bytes = 64:=by
 obtain ⟨i,hi,hzz⟩:=Option.map_eq_some_iff.1 IG
 simp only [Prod.mk.injEq] at hzz
 exact ⟨i,hi,hzz.1,hzz.2.1,hzz.2.2⟩
theorem Sm (n:Nat) (hn:n <= 1048576) (w:World):
    (Instr.makeSlice 27 (O U (n:Int)) (O U (n:Int))).run prog w = .ok (ψ (some ⟨w.1.size,0,none⟩) n n) (w.alloc (.cells (madeCells (Value.agg #[O U 0,O U 0,O U 0,O U 0,O U 0,O U 0,O U 0,φ false]).cells (n * 8)) 94)):=by
 obtain ⟨i,hi,hz,hs,hb⟩:=Jp
 have hr:=run_make (P:=prog) w 27 94 i _ underlying27 hi hz U U n n (by omega) (Int.le_refl _) (by rw [hb];omega) (by omega)
 rw [hs] at hr
 simpa using hr
theorem LO {w:World} {base g n:Nat} {cs:Array Value} {L:List Tru} (hg:w.1[g]? = some (.cells cs 94 (0,0))) (hb:base <= g) (hc:cs.toList = Af truV L) (hn:n = L.length) (h8:n <= maxLen):
    Bl w base (ψ (some ⟨g,0,none⟩) n n) L:=by
 subst hn
 refine ⟨?_,.inr ⟨g,L.length,cs,rfl,hb,hg,lr _,h8,?_,?_⟩⟩
 ·rw [Ak AD]
 ·rw [<- Array.length_toList,hc,Ak AD]
 ·rw [hc,<- Ak AD,List.take_length]
theorem LU (A:Option Addr) (L:List Tru) (cap:Nat) (w:World) (h0:0 < L.length) (h8:L.length <= 1048576) (hA:Trs w w.1.size A L):
    Calls prog 141 #[ψ A L.length cap] w (Rp w L):=by
 obtain ⟨q,off,rfl,hq,_⟩:=hA 0 h0
 have hmk:=fun u=>Sm L.length h8 u
 have hw0:Aa (w.alloc (.cells (madeCells (Value.agg #[O U 0,O U 0,O U 0,O U 0,O U 0,O U 0,O U 0,φ false]).cells (L.length * 8)) 94)) w.1.size 94 (madeCells (Value.agg #[O U 0,O U 0,O U 0,O U 0,O U 0,O U 0,O U 0,φ false]).cells (L.length * 8)):=Aa.new w _ _
 have hb0:=Ap w (.cells (madeCells (Value.agg #[O U 0,O U 0,O U 0,O U 0,O U 0,O U 0,O U 0,φ false]).cells (L.length * 8)) 94)
 have hsz:(madeCells (Value.agg #[O U 0,O U 0,O U 0,O U 0,O U 0,O U 0,O U 0,φ false]).cells (L.length * 8)).size = L.length * 8:=size_madeCells _ _
 have hnw:∀ j v,(Af truV L)[j]? = some v -> (w.alloc (.cells (madeCells (Value.agg #[O U 0,O U 0,O U 0,O U 0,O U 0,O U 0,O U 0,φ false]).cells (L.length * 8)) 94)).cell? (Addr.add ⟨q,off,none⟩ j) = some v:=by
  intro j v hv
  obtain ⟨ad,e,hc⟩:=(hA.below hb0 (lr _)).news AD (by omega) j v hv
  injection e with e
  rw [e];exact hc
 have H0:=hid hnw
 have W0:=hid hw0
 have B0:=hid hb0
 have SZ:=hid hsz
 have hl:=Ak (L:=L) AD
 have FL:=hid hl
 have F1:=hid (KL L)
 clear hA hw0 hb0 hsz hnw hl
 unfold Rp
 generalize madeCells (Value.agg #[O U 0,O U 0,O U 0,O U 0,O U 0,O U 0,O U 0,φ false]).cells (L.length * 8) = mc at hmk W0 B0 SZ H0
 have HL0:=hid h0
 have HL8:=hid h8
 have hn0:(0:Int) <= L.length:=by omega
 have hle:(L.length:Int) <= 1048576:=by omega
 obtain ⟨n,hn⟩:∃ n,n = L.length:=⟨_,rfl⟩
 have HN:=hid hn
 rw [<- hn] at hmk hn0 hle |-
 clear hn h0 h8
 go_enter func141,ntmps141
 go_upto_region 2 with fail
 have hw0:=W0.out
 have hb0:=B0.out
 have h0q:=H0.out
 clear hmk W0 B0 H0
 generalize World.alloc _ _ = w1 at hw0 hb0 h0q |-
 have HS:=hid h0q
 have HLL:=hid (show (Af truV L).length = Nat.min n n * 8 by rw [FL.out,<- HN.out,show Nat.min n n = n from Nat.min_self n])
 have HF:=hid (show 0 + (Af truV L).length <= mc.size by rw [FL.out,SZ.out];omega)
 have hrun:=Dh (P:=prog) w1 27 27 3 94 w.1.size 0 n n ⟨q,off,none⟩ n cap mc 94 (Af truV L) 8 underlying27 (by rw [Jp.choose_spec.1];exact congrArg some Jp.choose_spec.2.2.1) hw0 HLL.out HS.out HF.out F1.out
 rw [show Nat.min n n = n from Nat.min_self n] at hrun
 have hg2:=hid (setRow_heap w1 w.1.size mc (mc.toList.take 0 ++ Af truV L ++ mc.toList.drop (0 + (Af truV L).length)).toArray 94 _ hw0)
 have hgb2:RowKit.Hid (w1.grownBy (w1.setRow w.1.size (mc.toList.take 0 ++ Af truV L ++ mc.toList.drop (0 + (Af truV L).length)).toArray) (some w.1.size)):=hid ⟨rfl,rfl,rfl,by simp [World.setRow],fun k _ hk=>setRow_other w1 w.1.size k _ (by intro e;exact hk (by rw [e]))⟩
 have HG:=hid hw0
 have HB:=hid hb0
 generalize World.setRow w1 _ _ = w2 at hrun hg2 hgb2
 clear hw0 hb0 h0q HS HLL HF
 go_wp2_with fail
 go_ret
 refine ⟨_,rfl,LO hg2.out (lr _) ?_ HN.out (by have:=HL8.out;have:=HN.out;unfold maxLen;omega),?_⟩
 ·have:mc.toList.drop (0 + (Af truV L).length) = []:=by
    apply List.drop_eq_nil_of_le
    rw [Array.length_toList,SZ.out,FL.out];omega
  rw [this];simp
 ·exact HB.out.trans (EE hgb2.out HB.out.size (fun k e=>by injection e;omega))
def OF (w:World) (b off:Nat) (t:Ce):Prop:=w.cell? ⟨b,off,none⟩ = some (O U t.1) /\ w.cell? ⟨b,off + 1,none⟩ = some (O U t.2)
theorem OF.below {w u:World} {B b off:Nat} {t:Ce} (h:OF w b off t) (hb:Below B w u) (hlt:b < B):OF u b off t:=by
 have f:=fun o=>hb.cell (p:=⟨b,o,none⟩) hlt
 exact ⟨(f _).trans h.1,(f _).trans h.2⟩
theorem Cls.at_ {w:World} {B:Nat} {A:Option Addr} {L:List Ce} {k:Nat} (h:Cls w B A L) (hk:k < L.length):∃ b off,A = some ⟨b,off,none⟩ /\ b < B /\ OF w b (off + k * 2) (L.getD k default):=by
 obtain ⟨b,off,e,hb,hc⟩:=h k hk
 exact ⟨b,off,e,hb,hc 0 (by omega),hc 1 (by omega)⟩
def CP (key:Int) (l:List Int) (L:List Ce):Prop:=(∀ i,i < L.length -> AO (L.getD i default).1 (L.getD i default).2) /\ (L.length:Int) = Bi key l
open Classical in
noncomputable def Dm (key:Int) (l:List Int) (L:List Ce):Bool:=decide (CP key l L)
open Classical in
theorem EQ {key:Int} {l:List Int} {L:List Ce} (h:CP key l L):Dm key l L = true:=by unfold Dm;exact decide_eq_true h
open Classical in
theorem Gd {key:Int} {l:List Int} {L:List Ce} (h:¬ CP key l L):Dm key l L = false:=by unfold Dm;exact decide_eq_false h
def EZ (L:List Ce) (k:Nat):Prop:=∀ i,i < k -> AO (L.getD i default).1 (L.getD i default).2
theorem FD (key:Int) (A C:Option Addr) (l:List Int) (cap:Nat) (L:List Ce) (cap2:Nat) (w:World) (hn:l.length <= maxLen) (hA:Ints w U w.1.size A l) (hN:L.length <= maxLen) (hC:Cls w w.1.size C L):
    Calls prog 80 #[σ #[O U key,ψ A l.length cap],ψ C L.length cap2] w fun e w'=>e = τ (φ (Dm key l L)) /\ Below w.1.size w w':=by
 have K0:=hid (show Kept w [(w.1.size,26,#[O U key,ψ A l.length cap])] _ from (Kept.refl w).put1 _ _ #[O U key,ψ A l.length cap] rfl)
 have PO:=hid (fun (u:World) (hb:Below w.1.size w u)=>FR key A l cap u hn ((hA.below hb (lr _)).more hb.size))
 have TO:=hid (fun (t:Ce) (u:World)=>AQ t.1 t.2 u)
 have HC:=hid hC
 have hm:=hN
 unfold maxLen at hm
 clear hA hC hN hn
 go_enter func80,ntmps80
 go_wp2_with fail
 go_loopw [5] (fun i wr=>∃ k:Nat,k <= L.length /\ i = O U k /\ EZ L k /\ Kept w [(w.1.size,26,#[O U key,ψ A l.length cap])] wr) (fun i _=>L.length - (intOf i).toNat)
 case atStart=>exact ⟨0,Nat.zero_le _,rfl,fun i hi=>absurd hi (by omega),K0.out⟩
 case round=>
  obtain ⟨k,hk,rfl,hup,hz⟩:=hrel
  have HU:=hid hup
  clear hup
  by_cases hlt:k < L.length
  ·obtain ⟨b,off,rfl,hb,hc⟩:=HC.out.at_ hlt
   have hlt':(k:Int) < L.length:=by omega
   have hk0:(0:Int) <= k:=by omega
   have TB:=hid (TO.out (L.getD k default))
   obtain ⟨c0,c1⟩:=hc.below hz.1 hb
   by_cases hok:AO (L.getD k default).1 (L.getD k default).2
   ·have NX:=hid (show EZ L (k + 1) from fun i hi=>by
      rcases Nat.lt_or_ge i k with h | h
      ·exact HU.out i h
      ·obtain rfl:i = k:=by omega
       exact hok)
    rw [decide_eq_true hok] at TB
    clear hok HU
    generalize L.getD k default = t at hc TB c0 c1
    go_wp2_with fail
    refine (TB.out _).mono ?_;rintro e w1 ⟨rfl,b1⟩
    have h1:=hz.below b1
    clear b1 hz c0 c1
    go_wp2_with fail
    go_roundw
    case rel=>exact ⟨k + 1,by omega,by go_num,NX.out,h1⟩
    case measure=>simp [intOf];omega
   ·rw [decide_eq_false hok] at TB
    have HX:=hid (Gd (l:=l) (L:=L) (key:=key) (fun h=>hok (h.1 k hlt)))
    clear hok HU
    generalize L.getD k default = t at hc TB c0 c1
    go_wp2_with fail
    refine (TB.out _).mono ?_;rintro e w1 ⟨rfl,b1⟩
    have h1:=hz.below b1
    clear b1 hz c0 c1
    go_wp2_with fail
    go_ret
    exact ⟨by rw [HX.out];rfl,h1.1⟩
  ·have hk':k = L.length:=by omega
   subst hk'
   have PB:=PO
   by_cases hs:(L.length:Int) = Bi key l
   have z_1:=trivial;rotate_left;have z_2:=trivial;rotate_left
   all_goals
    first
     | guard_hyp z_1
       have HX:=hid (EQ (show CP key l L from ⟨HU.out,hs⟩))
       have hbl:((L.length:Int) == Bi key l) = true:=beq_iff_eq.2 hs
     | have HX:=hid (Gd (show ¬ CP key l L from fun h=>hs h.2))
       have hbl:((L.length:Int) == Bi key l) = false:=beq_false_of_ne hs
    generalize Bi key l = ss at PB hbl
    clear hs
    obtain ⟨X0,Y0,-⟩:=hz.rd
    go_wp2_with fail
    refine (PB.out _ hz.1).mono ?_;rintro e w1 ⟨rfl,b1⟩
    have h1:=hz.below b1
    clear b1 hz X0 Y0
    go_wp2_with fail
    go_ret
    exact ⟨by rw [HX.out];rfl,h1.1⟩

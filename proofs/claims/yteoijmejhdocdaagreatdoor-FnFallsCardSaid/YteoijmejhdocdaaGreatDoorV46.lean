import Derived.Test.YteoijmejhdocdaaGreatDoorV41
import Derived.Test.YteoijmejhdocdaaGreatDoorV45
namespace Go.Proofs.YteoijmejhdocdaaGreatDoor.Mx
open Go.ChangeShapes Go.WideShapes Go.ChangeAt Go.RowKit
set_option linter.unusedVariables false
open Go.Lib (hid)
open Go.Proofs.Tryz
set_option maxRecDepth 20000
set_option maxHeartbeats 64000000
open Value renaming int → O, slice → ψ, bool → φ, agg → σ
open IntKind renaming i64 → U
open Ending renaming returned → τ
theorem Oo {key:Int} {l:List Int} {y:Int} {T:List Tru} (h:Ba key l T) (h0:0 <= y) (h1:y <= 10000):Dq key l y T = (y,T,Fa key l y T):=by unfold Dq;rw [if_pos ⟨h,h0,h1⟩]
def VolN.Par (x:VolN):Prop:=x.s0.count % 2 = 0 /\ x.s1.count % 2 = 1
def VolN.Sealed (x:VolN) (T:List Tru) (M:List Ce):Prop:=
 (x.count % 2 = 0 -> Bg x.key x.counts x.count x.s0 = true /\ x.s0.trusts = T /\ x.s0.cells = M) /\
 (x.count % 2 = 1 -> Bg x.key x.counts x.count x.s1 = true /\ x.s1.trusts = T /\ x.s1.cells = M)
def VolN.Same (x y:VolN):Prop:=y.key = x.key /\ y.counts = x.counts /\ y.s0 = x.s0 /\ y.s1 = x.s1 /\ y.count = x.count
theorem VolN.Same.refl (x:VolN):x.Same x:=⟨rfl,rfl,rfl,rfl,rfl⟩
theorem VolN.Same.trans {x y z:VolN} (h:x.Same y) (h':y.Same z):x.Same z:=
 ⟨h'.1.trans h.1,h'.2.1.trans h.2.1,h'.2.2.1.trans h.2.2.1,h'.2.2.2.1.trans h.2.2.2.1,h'.2.2.2.2.trans h.2.2.2.2⟩
theorem VolN.Same.par {x y:VolN} (h:x.Same y) (hp:x.Par):y.Par:=by
 obtain ⟨h1,h2,h3,h4,h5⟩:=h
 unfold VolN.Par
 rw [h3,h4];exact hp
theorem VolN.Same.sealed {x y:VolN} {T:List Tru} {M:List Ce} (h:x.Same y) (hp:x.Sealed T M):y.Sealed T M:=by
 obtain ⟨h1,h2,h3,h4,h5⟩:=h
 unfold VolN.Sealed
 rw [h1,h2,h3,h4,h5];exact hp
theorem ES (x:VolN) (a v:Int):x.Same (Ca x a v).1:=by
 unfold Ca
 split
 ·split
  ·exact VolN.Same.refl x
  ·exact ⟨rfl,rfl,rfl,rfl,rfl⟩
 ·exact VolN.Same.refl x
theorem FV (x:VolN) (a v:Int):x.Same (Dx x a v).1:=by
 unfold Dx
 split
 ·exact ES x a v
 ·exact VolN.Same.refl x
theorem DV (x:VolN) (r:Int):x.Same (AM x r).1:=by
 unfold AM
 split
 ·exact ⟨rfl,rfl,rfl,rfl,rfl⟩
 ·exact VolN.Same.refl x
theorem Ow (r:Int) (n:Nat) (x:VolN):x.Same (Fp r n x).1:=by
 induction n generalizing x with
 | zero=>exact DV x r
 | succ n ih=>
   by_cases h:(AM x r).2 = 0
   ·rw [MG h];exact (DV x r).trans (ih _)
   ·rw [Lr h];exact DV x r
theorem Gb (x:VolN) (r:Int):x.Same (DR x r).1:=Ow _ _ _
theorem It (x:VolN):x.Same (Bc x).1:=by
 unfold Bc
 split
 ·exact ⟨rfl,rfl,rfl,rfl,rfl⟩
 ·split <;> exact ⟨rfl,rfl,rfl,rfl,rfl⟩
theorem GR {x:VolN} {T:List Tru} {M:List Ce} (hp:x.Par) (hs:x.Sealed T M):Bc x = ({ x with cells:=M,trusts:=T },0):=by
 rcases (show x.count % 2 = 0 \/ x.count % 2 = 1 by omega) with h | h
 ·obtain ⟨h1,rfl,rfl⟩:=hs.1 h
  have e:BK x.key x.counts [x.s0,x.s1] x.count = 0:=Fb (k:=0) (by simp) (by simpa using h1) (fun j hj=>by omega)
  unfold Bc
  rw [e,if_neg (by decide),if_pos rfl]
 ·obtain ⟨h1,rfl,rfl⟩:=hs.2 h
  have h0:Bg x.key x.counts x.count x.s0 = false:=by
   unfold Bg
   have hne:¬ x.s0.count = x.count:=by intro e;have:=hp.1;rw [e] at this;omega
   rw [decide_eq_false hne,Bool.and_false]
  have e:BK x.key x.counts [x.s0,x.s1] x.count = 1:=Fb (k:=1) (by simp) (by simpa using h1) (fun j hj=>by
   obtain rfl:j = 0:=by omega
   simpa using h0)
  unfold Bc
  rw [e,if_neg (by decide),if_neg (by decide)]
theorem GT {x:VolN} (h:x.Inv) (hc:x.count < 10000) (s:Int):(slotN x s).count = x.count + 1 /\ (slotN x s).trusts = x.trusts /\ (slotN x s).cells = x.cells /\ (s ≠ 1 -> (slotN x s).mac = Fa x.key x.counts (x.count + 1) x.trusts):=by
 have h0:=h.2.2.2.1.1
 unfold slotN
 rw [Oo h.2.1 (by omega) (by omega)]
 exact ⟨rfl,rfl,rfl,fun hs=>by simp only [];rw [if_neg hs]⟩
theorem NQ {x:VolN} (h:x.Inv) (hc:x.count < 10000):Bg x.key x.counts (x.count + 1) (slotN x 3) = true:=by
 have h0:=h.2.2.2.1.1
 obtain ⟨e1,e2,e3,e4⟩:=GT h hc 3
 unfold Bg Fv Ho
 rw [e1,e2,e3,e4 (by decide),DQ h.2.1,EQ h.2.2.1,decide_eq_true (show 0 <= x.count + 1 /\ x.count + 1 <= 10000 by omega),decide_eq_true rfl,decide_eq_true rfl]
 rfl
theorem JM {x:VolN} (h:x.Inv) (hc:x.count < 10000) (hp:x.Par) {s:Int} (h0:0 <= s) (h2:s <= 2):(Ah x s).2 = 0 /\ (Ah x s).1.Par /\ (Ah x s).1.count = x.count /\ ∀ T M,x.Sealed T M -> (Ah x s).1.Sealed T M:=by
 unfold Ah
 rw [if_neg (by omega),if_neg (by omega)]
 by_cases hs:s = 0
 ·rw [if_pos hs];exact ⟨rfl,hp,rfl,fun T M h=>h⟩
 ·rw [if_neg hs,if_neg (show ¬ s = 3 by omega)]
  obtain ⟨e1,-⟩:=GT h hc s
  unfold Ep
  rcases (show (x.count + 1) % 2 = 0 \/ (x.count + 1) % 2 = 1 by omega) with hm | hm
  ·rw [if_pos hm]
   refine ⟨rfl,⟨?_,hp.2⟩,rfl,fun T M hT=>⟨fun hx=>?_,hT.2⟩⟩
   ·show (slotN x s).count % 2 = 0
    rw [e1];exact hm
   ·have hx':x.count % 2 = 0:=hx
    omega
  ·rw [if_neg (by omega)]
   refine ⟨rfl,⟨hp.1,?_⟩,rfl,fun T M hT=>⟨hT.1,fun hx=>?_⟩⟩
   ·show (slotN x s).count % 2 = 1
    rw [e1];exact hm
   ·have hx':x.count % 2 = 1:=hx
    omega
theorem GE {x:VolN} (h:x.Inv) (hc:x.count < 10000) (hp:x.Par):(Ah x 3).2 = 0 /\ (Ah x 3).1.Par /\ (Ah x 3).1.count = x.count + 1 /\ (Ah x 3).1.Sealed x.trusts x.cells /\ (Ah x 3).1.trusts = x.trusts /\ (Ah x 3).1.cells = x.cells:=by
 have hch:=NQ h hc
 obtain ⟨e1,e2,e3,-⟩:=GT h hc 3
 unfold Ah
 rw [if_neg (by omega),if_neg (by omega),if_neg (by omega),if_pos rfl]
 unfold Ep
 rcases (show (x.count + 1) % 2 = 0 \/ (x.count + 1) % 2 = 1 by omega) with hm | hm
 ·rw [if_pos hm]
  refine ⟨rfl,⟨?_,hp.2⟩,rfl,⟨fun _=>⟨hch,e2,e3⟩,fun hx=>?_⟩,rfl,rfl⟩
  ·show (slotN x 3).count % 2 = 0
   rw [e1];exact hm
  ·have hx':(x.count + 1) % 2 = 1:=hx
   omega
 ·rw [if_neg (by omega)]
  refine ⟨rfl,⟨hp.1,?_⟩,rfl,⟨fun hx=>?_,fun _=>⟨hch,e2,e3⟩⟩,rfl,rfl⟩
  ·show (slotN x 3).count % 2 = 1
   rw [e1];exact hm
  ·have hx':(x.count + 1) % 2 = 0:=hx
   omega
theorem JP {x:VolN} (h:x.Inv) (hc:x.count < 10000) (hp:x.Par) (s:Int):(Ah x s).1.Par /\ x.count <= (Ah x s).1.count /\ (Ah x s).1.count <= x.count + 1:=by
 by_cases h3:s = 3
 ·subst h3
  obtain ⟨-,h1,h2,-⟩:=GE h hc hp
  exact ⟨h1,by omega,by omega⟩
 ·by_cases h0:0 <= s /\ s <= 2
  ·obtain ⟨-,h1,h2,-⟩:=JM h hc hp h0.1 h0.2
   exact ⟨h1,by omega,by omega⟩
  ·unfold Ah
   rw [if_pos (by omega)]
   exact ⟨hp,by simp only [];omega,by simp only [];omega⟩
theorem Ma {key:Int} {l:List Int} (h:(Cl key l).Inv):(Cl key l).Par /\ (Cl key l).count = 1:=by
 refine ⟨⟨(rfl:(0:Int) % 2 = 0),?_⟩,rfl⟩
 show (Dq key l 1 (Br key l l.length)).1 % 2 = 1
 have ht:Ba key l (Br key l l.length):=h.2.1
 rw [Oo ht (by omega) (by omega)]
 exact (rfl:(1:Int) % 2 = 1)
theorem Rc {x:VolN} (h:x.Inv) (hc:x.count < 10000) (hp:x.Par) {kind:Int} (hk:1 <= kind /\ kind <= 6) (a b c:Int):(FF x kind a b c).1.Par /\ (FF x kind a b c).1.count <= x.count + 1:=by
 have same:∀ y:VolN,x.Same y -> y.Par /\ y.count <= x.count + 1:=fun y hy=>⟨hy.par hp,by have:=hy.2.2.2.2;omega⟩
 unfold FF
 split
 ·exact same _ (ES x a (-1))
 ·split
  ·exact same _ (FV x a b)
  ·split
   ·exact same _ (DV x a)
   ·split
    ·exact same _ (Gb x a)
    ·split
     ·have:=JP h hc hp 3
      exact ⟨this.1,this.2.2⟩
     ·have hs:=JP h hc hp a
      rw [if_pos (by omega)]
      unfold Gq
      split
      ·have hf:=It (Ah x a).1
       exact ⟨hf.par hs.1,by have:=hf.2.2.2.2;show (Bc (Ah x a).1).1.count <= x.count + 1;omega⟩
      ·exact ⟨hs.1,hs.2.2⟩
theorem OZ (x:VolN) {kind:Int} (hk:1 <= kind /\ kind <= 4) (a b c:Int):x.Same (FF x kind a b c).1:=by
 unfold FF
 split
 ·exact ES x a (-1)
 ·split
  ·exact FV x a b
  ·split
   ·exact DV x a
   ·rw [if_pos (by omega)]
    exact Gb x a
theorem Sj {x:VolN} {T:List Tru} {M:List Ce} (h:x.Inv) (hc:x.count < 10000) (hp:x.Par) (hs:x.Sealed T M) {s:Int} (h0:0 <= s) (h3:s <= 3):
    (Ah x s).2 = 0 /\ (Bc (Ah x s).1).2 = 0 /\ (Bc (Ah x s).1).1.cells = (if s = 3 then x.cells else M) /\ (Bc (Ah x s).1).1.trusts = (if s = 3 then x.trusts else T):=by
 by_cases e:s = 3
 ·subst e
  obtain ⟨e1,e2,-,e3,-⟩:=GE h hc hp
  rw [GR e2 e3,if_pos rfl,if_pos rfl]
  exact ⟨e1,rfl,rfl,rfl⟩
 ·obtain ⟨e1,e2,-,e3⟩:=JM h hc hp h0 (by omega)
  rw [GR e2 (e3 T M hs),if_neg e,if_neg e]
  exact ⟨e1,rfl,rfl,rfl⟩
theorem MD {x:VolG} (hi:x.Int64) (a:Int):QInv (Do x a).1:=by
 unfold Do
 split
 ·rename_i h
  intro y e
  injection e with e
  exact e ▸ Du (VolG.inv hi h).2 a
 ·intro y e;cases e
theorem Mz {x:VolG} (hi:x.Int64):QInv (Dt x).1:=by
 unfold Dt
 split
 ·rename_i h
  intro y e
  injection e with e
  exact e ▸ GA (VolG.inv hi h).2
 ·intro y e;cases e
theorem Lf {x:VolG} (hi:x.Int64) (a:Int):QInv (CN x a).1:=by
 unfold CN
 split
 ·rename_i h
  intro y e
  injection e with e
  exact e ▸ IW (VolG.inv hi h).2 a
 ·intro y e;cases e
theorem Qv (e0:Addr) (x:VolG) (a:Int) (hsh:x.Short) (h64:x.Int64):∃ (y:VolG) (k:Int),(y.Short /\ y.Int64) /\
    (∀ v u,RdG u u.1.size x v -> Bad1 u e0 -> Calls prog 27 #[v,O U a] u (IV u y k)) /\
    (∀ v u,RdG u u.1.size x v -> Calls prog 28 #[v,O U a] u (IV u y k)):=
 ⟨_,_,⟨(MD h64 a).shown.1,(MD h64 a).shown.2⟩,fun v u h he=>(Kv e0 x v u a hsh h64 h he).mono fun e w' h=>h.v,fun v u h=>(Gz x v a u hsh h64 h).mono fun e w' h=>h.v⟩
theorem Qx (e0:Addr) (x:VolG)  (hsh:x.Short) (h64:x.Int64):∃ (y:VolG) (k:Int),(y.Short /\ y.Int64) /\
    (∀ v u,RdG u u.1.size x v -> Bad1 u e0 -> Calls prog 30 #[v] u (IV u y k)) /\
    (∀ v u,RdG u u.1.size x v -> Calls prog 31 #[v] u (IV u y k)):=
 ⟨_,_,⟨(Mz h64).shown.1,(Mz h64).shown.2⟩,fun v u h he=>(Mu e0 x v u hsh h64 h he).mono fun e w' h=>h.v,fun v u h=>(LW x v u hsh h64 h).mono fun e w' h=>h.v⟩
theorem Pp (e0:Addr) (x:VolG) (a:Int) (hsh:x.Short) (h64:x.Int64):∃ (y:VolG) (k:Int),(y.Short /\ y.Int64) /\
    (∀ v u,RdG u u.1.size x v -> Bad1 u e0 -> Calls prog 33 #[v,O U a] u (IV u y k)) /\
    (∀ v u,RdG u u.1.size x v -> Calls prog 34 #[v,O U a] u (IV u y k)):=
 ⟨_,_,⟨(Lf h64 a).shown.1,(Lf h64 a).shown.2⟩,fun v u h he=>(QO e0 x v u a hsh h64 h he).mono fun e w' h=>h.v,fun v u h=>(LE x v a u hsh h64 h).mono fun e w' h=>h.v⟩
def SR (w:World) (e:Ending) (w':World):Prop:=∃ (x:VolG) (cs:Array Value),e = τ (σ cs) /\ RdG w' w'.1.size x (σ cs) /\ ((x.Short /\ x.Int64) \/ ∃ y:VolN,x = y.toG /\ y.Inv) /\ Below w.1.size w w'
theorem KB.putX {w v u u':World} {g p:Nat} {A:Option Addr} {l:List Int} {cap:Nat} {L:List Box} {t:TypeId} {cs cs':Array Value} (h:KB w v g A l cap ((p,t,cs) :: L) u) (hg:u.grownBy u' (some p)) (hgp:g < p) (hL:∀ x ∈ L,x.1 ≠ p) (hc:Aa u' p t cs'):KB w v g A l cap ((p,t,cs') :: L) u':=by
 have hp:=(h.2.2.2 (p,t,cs) (by simp)).1.1
 refine ⟨bgb h.1 hg h.1.size hp,h.2.1.off hg hgp,h.2.2.1,fun x hx=>?_⟩
 rcases List.mem_cons.1 hx with rfl | hx
 ·exact ⟨⟨hp,by simp only [];omega⟩,hc⟩
 ·have hm:=h.2.2.2 x (List.mem_cons_of_mem _ hx)
  exact ⟨hm.1,hm.2.grown hg (by intro e;injection e with e;exact hL x hx e)⟩
theorem Mid.newer {lo hi:Nat} {u v v':World} {g:Nat} (h:Mid lo hi u v) (hg:v.grownBy v' (some g)) (hn:u.1.size <= g):Mid lo hi u v':=
 ⟨hg.os.trans h.1,hg.tape.trans h.2.1,hg.output.trans h.2.2.1,Nat.le_trans h.2.2.2.1 hg.size,fun k hk hr=>(hg.block k (Nat.lt_of_lt_of_le hk h.2.2.2.1) (by intro e;injection e;omega)).trans (h.2.2.2.2 k hk hr)⟩
theorem RdG.countPut {w:World} {Bd:Nat} {x:VolG} {b5 b4 b3 b2 b1 b0:Value} (n:Int) (h:RdG w Bd x (σ #[b0,b1,b2,b3,b4,b5])):RdG w Bd { x with count:=n } (σ #[b0,b1,b2,b3,b4,O U n]):=by
 obtain ⟨A,c,B,d,C,e,E,s,hv,h1⟩:=h
 refine ⟨A,c,B,d,C,e,E,s,?_,h1⟩
 simp only [Value.agg.injEq,Array.mk.injEq,List.cons.injEq] at hv
 obtain ⟨rfl,rfl,rfl,rfl,rfl,-⟩:=hv
 rfl
theorem VolO.litsD {u:World} {b:Nat} {x:VolN} {cs:Array Value} (h:VolO u b x (σ cs)):∃ A c B d C e g,cs = #[O U x.key,ψ A x.counts.length c,ψ B x.trusts.length d,ψ C x.cells.length e,ψ (some ⟨g,0,none⟩) 2 2,O U x.count]:=by
 obtain ⟨A,c,B,d,C,e,g,q0,q1,q2,q3,q4,q5,q6,q7,e9,-⟩:=h
 injection e9 with e9
 exact ⟨A,c,B,d,C,e,g,e9⟩
theorem CF:(∀ (Ac:Option Addr) (l:List Int) (cap:Nat) (w:World) (hn:l.length <= 4096) (hA:Ints w .u8 w.1.size Ac l),Calls prog 32 #[ψ Ac l.length cap] w (Sv w)) /\
 (∀ (Ac:Option Addr) (l:List Int) (cap:Nat) (w:World) (hn:l.length <= 4096) (hA:Ints w .u8 w.1.size Ac l),Calls prog 26 #[ψ Ac l.length cap] w (Sv w)) /\
 (∀ (Ac:Option Addr) (l:List Int) (cap:Nat) (w:World) (hn:l.length <= 4096) (hA:Ints w .u8 w.1.size Ac l),Calls prog 29 #[ψ Ac l.length cap] w (SR w)):=by
 refine ⟨fun Ac l cap w hn hA=>(fun (z_1:True)=>?_) trivial,fun Ac l cap w hn hA=>(fun (z_2:True)=>?_) trivial,fun Ac l cap w hn hA=>(fun (z_3:True)=>?_) trivial⟩
 all_goals
  have HN:=hid (show l.length <= maxLen by unfold maxLen;omega)
  have HM:=hid hn
  have K0:=hid (show Kept w [(w.1.size,31,#[O U 0,ψ none 0 0,ψ none 0 0,ψ none 0 0,ψ none 0 0,O U 0])] _ from (Kept.refl w).put1 _ _ #[O U 0,ψ none 0 0,ψ none 0 0,ψ none 0 0,ψ none 0 0,O U 0] rfl)
  have HA:=hid (fun (u:World) (hb:Below w.1.size w u)=>(hA.below hb (lr _)).more hb.size)
  have Z0:=hid (show (w.alloc (.cells #[O U 0,ψ none 0 0,ψ none 0 0,ψ none 0 0,ψ none 0 0,O U 0] 31)).1.size = w.1.size + 1 by simp)
  clear hn hA
  first
   | guard_hyp z_1
     go_enter func32,ntmps32
   | guard_hyp z_2
     go_enter func26,ntmps26
   | go_enter func29,ntmps29
  go_upto_region 1 with fail
  have k0:=K0.out
  have z0:=Z0.out
  clear K0 Z0
  generalize World.alloc _ _ = w0 at k0 z0 |-
  have HZ:=hid z0
  clear z0
  go_wp2_with fail
  refine (QC Ac l cap _ HN.out (HA.out _ k0.1)).mono ?_;rintro e w1 ⟨rfl,b1,c1⟩
  rw [HZ.out]
  rw [HZ.out] at c1
  have s1:St w0 (w.1.size + 1) Ac l cap w1:=⟨by rw [<- HZ.out];exact b1,c1⟩
  have k1:=k0.below b1
  have H1:=hid (show KB w w0 (w.1.size + 1) Ac l cap [(w.1.size,31,#[O U 0,ψ none 0 0,ψ none 0 0,ψ none 0 0,ψ none 0 0,O U 0])] w1 from ⟨k1.1,s1,by omega,fun x hx=>⟨⟨(k1.2 x hx).1,by simp at hx;rcases hx with rfl;simp⟩,(k1.2 x hx).2⟩⟩)
  clear b1 c1 s1 k1 k0 HA
  have z1:w.1.size + 1 < w1.1.size:=H1.out.2.1.2.lt
  go_wp2_with fail
  refine (Kb w0 (w.1.size + 1) Ac l cap w1 HM.out H1.out.2.1).mono ?_;rintro e w2 ⟨x,cs,rfl,hrd,hsh,h64,s2,g2⟩
  have z2:w1.1.size <= w2.1.size:=g2.size
  obtain ⟨A9,c9,B9,d9,C9,e9,E9,f9,eq,-⟩:=hrd w2 (Mid.refl _ _ _)
  injection eq with eq
  subst eq
  have h2:=H1.out.step s2 g2
  have h3:=h2.put1 w2.1.size 31 #[O U x.key,ψ A9 x.counts.length c9,ψ B9 x.trusts.length d9,ψ C9 x.cells.length e9,ψ E9 x.slots.length f9,O U x.count] rfl
  have m3:Mid 0 w1.1.size w2 (w2.alloc (.cells #[O U x.key,ψ A9 x.counts.length c9,ψ B9 x.trusts.length d9,ψ C9 x.cells.length e9,ψ E9 x.slots.length f9,O U x.count] 31)):=Mid.of_below ((Below.refl _ _).alloc (lr _) _)
  have HX:=hid (And.intro hsh h64)
  have HR:=hid hrd
  clear h2 hrd hsh h64 s2 g2 H1
  go_upto_region 3 with fail
  generalize World.alloc w2 _ = w3 at h3 m3 |-
  first
   | guard_hyp z_1
     have H3:=hid h3.drew
     have M3:=hid (m3.trans (Mid.drew _ _ _))
     have z3:w2.1.size < w3.1.size:=h3.lt (x:=(w2.1.size,31,#[O U x.key,ψ A9 x.counts.length c9,ψ B9 x.trusts.length d9,ψ C9 x.cells.length e9,ψ E9 x.slots.length f9,O U x.count])) (by simp)
   | guard_hyp z_2
     have H3a:=hid h3
     have M3a:=hid m3
   | have H3a:=hid h3
     have M3a:=hid m3
     have z3:w2.1.size < w3.1.size:=h3.lt (x:=(w2.1.size,31,#[O U x.key,ψ A9 x.counts.length c9,ψ B9 x.trusts.length d9,ψ C9 x.cells.length e9,ψ E9 x.slots.length f9,O U x.count])) (by simp)
  clear h3 m3
  first
   | guard_hyp z_1
     obtain ⟨X0,Y0,X1,Y1,-⟩:=H3.out.rd
     go_region_with (go_at_call 48;refine (ID w0 (w.1.size + 1) Ac l cap (-1) 2 _ HN.out H3.out.2.1 (by omega) (by omega) (by omega)).mono ?_;rintro e wx ⟨q,rfl,iq,s5,g5⟩;have H5:=hid (H3.out.step s5 g5);have M5:=hid (M3.out.trans (Mid.of g5 (fun k e=>by injection e;omega)));have IQ:=hid (show I64 q from ⟨by omega,by omega⟩);obtain ⟨mc0,mf0,mc1,mf1,-⟩:=H5.out.rd;clear s5 g5 iq)
     all_goals
      go_wp2_with fail
      obtain ⟨w9,e9',⟨d0,d1,d2,d3,d4,d5⟩,hb9,hg9⟩:=AN (w:=w) (x0:=O U x.key) (x1:=ψ A9 x.counts.length c9) (x2:=ψ B9 x.trusts.length d9) (x3:=ψ C9 x.cells.length e9) (x4:=ψ E9 x.slots.length f9) (x5:=O U x.count) (H5.out.at_ (p:=w.1.size) (t:=31) (cs:=#[O U 0,ψ none 0 0,ψ none 0 0,ψ none 0 0,ψ none 0 0,O U 0]) (by simp)) H5.out.1 (lr _)
      rw [e9']
      have hr9:=HR.out w9 (M5.out.trans (Mid.of hg9 (fun k e=>by injection e;omega)))
      exact bodyPost_ret (v:=.tuple #[σ #[O U x.key,ψ A9 x.counts.length c9,ψ B9 x.trusts.length d9,ψ C9 x.cells.length e9,ψ E9 x.slots.length f9,O U x.count],O U q]) (by simp [results,results32,go_sem,d0,d1,d2,d3,d4,d5]) rfl ⟨x,_,q,rfl,IQ.out,hr9,HX.out.1,HX.out.2,hb9⟩
   | guard_hyp z_2
     go_wp2_with fail
     refine (FM w0 (w.1.size + 1) Ac l cap 12 w3 HN.out H3a.out.2.1 (by omega)).mono ?_;rintro e w4 ⟨bb,rfl,s4,g4⟩
     have h3:=H3a.out.step s4 g4
     have m3:=M3a.out.trans (Mid.of g4 (fun k e=>by injection e;omega))
     clear s4 g4 H3a M3a
     rcases bb with _ | _
     ·go_upto_region 5 with fail
      have H3:=hid h3.drew
      have M3:=hid (m3.trans (Mid.drew _ _ _))
      have z3:w2.1.size < w4.1.size:=h3.lt (x:=(w2.1.size,31,#[O U x.key,ψ A9 x.counts.length c9,ψ B9 x.trusts.length d9,ψ C9 x.cells.length e9,ψ E9 x.slots.length f9,O U x.count])) (by simp)
      clear h3 m3
      obtain ⟨X0,Y0,X1,Y1,-⟩:=H3.out.rd
      go_region_with (go_at_call 48;refine (ID w0 (w.1.size + 1) Ac l cap (-1) 4 _ HN.out H3.out.2.1 (by omega) (by omega) (by omega)).mono ?_;rintro e wx ⟨q,rfl,iq,s5,g5⟩;have H5:=hid (H3.out.step s5 g5);have M5:=hid (M3.out.trans (Mid.of g5 (fun k e=>by injection e;omega)));have IQ:=hid (show I64 q from ⟨by omega,by omega⟩);obtain ⟨mc0,mf0,mc1,mf1,-⟩:=H5.out.rd;clear s5 g5 iq)
      all_goals
       go_wp2_with fail
       obtain ⟨w9,e9',⟨d0,d1,d2,d3,d4,d5⟩,hb9,hg9⟩:=AN (w:=w) (x0:=O U x.key) (x1:=ψ A9 x.counts.length c9) (x2:=ψ B9 x.trusts.length d9) (x3:=ψ C9 x.cells.length e9) (x4:=ψ E9 x.slots.length f9) (x5:=O U x.count) (H5.out.at_ (p:=w.1.size) (t:=31) (cs:=#[O U 0,ψ none 0 0,ψ none 0 0,ψ none 0 0,ψ none 0 0,O U 0]) (by simp)) H5.out.1 (lr _)
       rw [e9']
       have hr9:=HR.out w9 (M5.out.trans (Mid.of hg9 (fun k e=>by injection e;omega)))
       exact bodyPost_ret (v:=.tuple #[σ #[O U x.key,ψ A9 x.counts.length c9,ψ B9 x.trusts.length d9,ψ C9 x.cells.length e9,ψ E9 x.slots.length f9,O U x.count],O U q]) (by simp [results,results26,go_sem,d0,d1,d2,d3,d4,d5]) rfl ⟨x,_,q,rfl,IQ.out,hr9,HX.out.1,HX.out.2,hb9⟩
     ·have H3b:=hid h3
      have M3b:=hid m3
      clear h3 m3
      go_wp2_with fail
      refine (Bp w0 (w.1.size + 1) Ac l cap 2 w4 HN.out H3b.out.2.1 (by omega)).mono ?_;rintro e w5 ⟨n,rfl,⟨n0,n1⟩,s5,g5⟩
      have h5:=H3b.out.step s5 g5
      have m5:=M3b.out.trans (Mid.of g5 (fun k e=>by injection e;omega))
      clear s5 g5 H3b M3b
      have hw1:IntKind.i64.wrap (10000 - n) = 10000 - n:=IntWalk.i64_in _ (by omega)
      obtain ⟨X0,Y0,X1,Y1,-⟩:=h5.rd
      go_upto_region 5 with fail
      have gs:=Ai (Aj w5 (some w2.1.size)) 5 (O U (10000 - n))
      have h3:=h5.putX (cs':=#[O U x.key,ψ A9 x.counts.length c9,ψ B9 x.trusts.length d9,ψ C9 x.cells.length e9,ψ E9 x.slots.length f9,O U (10000 - n)]) gs (by omega) (by intro y hy;simp only [List.mem_cons,List.not_mem_nil,or_false] at hy;subst hy;simp only [];omega) ((h5.at_ (p:=w2.1.size) (t:=31) (cs:=#[O U x.key,ψ A9 x.counts.length c9,ψ B9 x.trusts.length d9,ψ C9 x.cells.length e9,ψ E9 x.slots.length f9,O U x.count]) (by simp)).set_ 5 (O U (10000 - n)))
      have m3:=m5.newer gs (lr _)
      have HI:=hid (show I64 (10000 - n) from ⟨by omega,by omega⟩)
      clear gs h5 m5 X0 Y0 X1 Y1
      generalize World.setCell w5 _ _ = w6 at h3 m3 |-
      have H3:=hid h3.drew
      have M3:=hid (m3.trans (Mid.drew _ _ _))
      have z3:w2.1.size < w6.1.size:=h3.lt (x:=(w2.1.size,31,#[O U x.key,ψ A9 x.counts.length c9,ψ B9 x.trusts.length d9,ψ C9 x.cells.length e9,ψ E9 x.slots.length f9,O U (10000 - n)])) (by simp)
      clear h3 m3
      obtain ⟨X0,Y0,X1,Y1,-⟩:=H3.out.rd
      go_region_with (go_at_call 48;refine (ID w0 (w.1.size + 1) Ac l cap (-1) 4 _ HN.out H3.out.2.1 (by omega) (by omega) (by omega)).mono ?_;rintro e wx ⟨q,rfl,iq,s5,g5⟩;have H5:=hid (H3.out.step s5 g5);have M5:=hid (M3.out.trans (Mid.of g5 (fun k e=>by injection e;omega)));have IQ:=hid (show I64 q from ⟨by omega,by omega⟩);obtain ⟨mc0,mf0,mc1,mf1,-⟩:=H5.out.rd;clear s5 g5 iq)
      all_goals
       go_wp2_with fail
       obtain ⟨w9,e9',⟨d0,d1,d2,d3,d4,d5⟩,hb9,hg9⟩:=AN (w:=w) (x0:=O U x.key) (x1:=ψ A9 x.counts.length c9) (x2:=ψ B9 x.trusts.length d9) (x3:=ψ C9 x.cells.length e9) (x4:=ψ E9 x.slots.length f9) (x5:=O U (10000 - n)) (H5.out.at_ (p:=w.1.size) (t:=31) (cs:=#[O U 0,ψ none 0 0,ψ none 0 0,ψ none 0 0,ψ none 0 0,O U 0]) (by simp)) H5.out.1 (lr _)
       rw [e9']
       have hr9:=HR.out w9 (M5.out.trans (Mid.of hg9 (fun k e=>by injection e;omega)))
       exact bodyPost_ret (v:=.tuple #[σ #[O U x.key,ψ A9 x.counts.length c9,ψ B9 x.trusts.length d9,ψ C9 x.cells.length e9,ψ E9 x.slots.length f9,O U (10000 - n)],O U q]) (by simp [results,results26,go_sem,d0,d1,d2,d3,d4,d5]) rfl ⟨{ x with count:=10000 - n },_,q,rfl,IQ.out,hr9.countPut (10000 - n),HX.out.1,⟨HX.out.2.1,HX.out.2.2.1,HI.out⟩,hb9⟩
   | obtain ⟨X0,Y0,X1,Y1,-⟩:=H3a.out.rd
     go_wp2_with fail
     refine (FM w0 (w.1.size + 1) Ac l cap 2 w3 HN.out H3a.out.2.1 (by omega)).mono ?_;rintro e w4 ⟨bb,rfl,s4,g4⟩
     have h3:=H3a.out.step s4 g4
     have m3:=M3a.out.trans (Mid.of g4 (fun k e=>by injection e;omega))
     clear s4 g4 H3a M3a X0 Y0 X1 Y1
     rcases bb with _ | _
     ·skip
      have H5:=hid h3
      have M5:=hid m3
      have z3:w2.1.size < w4.1.size:=h3.lt (x:=(w2.1.size,31,#[O U x.key,ψ A9 x.counts.length c9,ψ B9 x.trusts.length d9,ψ C9 x.cells.length e9,ψ E9 x.slots.length f9,O U x.count])) (by simp)
      clear h3 m3
      obtain ⟨X0,Y0,X1,Y1,-⟩:=H5.out.rd
      go_wp2_with fail
      obtain ⟨w9,e9',⟨d0,d1,d2,d3,d4,d5⟩,hb9,hg9⟩:=AN (w:=w) (x0:=O U x.key) (x1:=ψ A9 x.counts.length c9) (x2:=ψ B9 x.trusts.length d9) (x3:=ψ C9 x.cells.length e9) (x4:=ψ E9 x.slots.length f9) (x5:=O U x.count) (H5.out.at_ (p:=w.1.size) (t:=31) (cs:=#[O U 0,ψ none 0 0,ψ none 0 0,ψ none 0 0,ψ none 0 0,O U 0]) (by simp)) H5.out.1 (lr _)
      rw [e9']
      have hr9:=HR.out w9 (M5.out.trans (Mid.of hg9 (fun k e=>by injection e;omega)))
      exact bodyPost_ret (v:=σ #[O U x.key,ψ A9 x.counts.length c9,ψ B9 x.trusts.length d9,ψ C9 x.cells.length e9,ψ E9 x.slots.length f9,O U x.count]) (by simp [results,results29,go_sem,d0,d1,d2,d3,d4,d5]) rfl ⟨x,_,rfl,hr9,.inl HX.out,hb9⟩
     ·obtain ⟨X0,Y0,X1,Y1,-⟩:=h3.rd
      have H3a:=hid h3
      have M3a:=hid m3
      clear h3 m3
      go_wp2_with fail
      refine (DG x _ w4 HX.out.1 HX.out.2 (HR.out w4 M3a.out)).mono ?_;rintro e w5 ⟨rfl,b5⟩
      have h3:=H3a.out.below b5
      have m3:=M3a.out.trans (Mid.of_below b5)
      clear b5 H3a M3a X0 Y0 X1 Y1
      cases hok:x.okB with
      | false=>
        have H5:=hid h3
        have M5:=hid m3
        have z3:w2.1.size < w5.1.size:=h3.lt (x:=(w2.1.size,31,#[O U x.key,ψ A9 x.counts.length c9,ψ B9 x.trusts.length d9,ψ C9 x.cells.length e9,ψ E9 x.slots.length f9,O U x.count])) (by simp)
        clear h3 m3
        obtain ⟨X0,Y0,X1,Y1,-⟩:=H5.out.rd
        go_wp2_with fail
        obtain ⟨w9,e9',⟨d0,d1,d2,d3,d4,d5⟩,hb9,hg9⟩:=AN (w:=w) (x0:=O U x.key) (x1:=ψ A9 x.counts.length c9) (x2:=ψ B9 x.trusts.length d9) (x3:=ψ C9 x.cells.length e9) (x4:=ψ E9 x.slots.length f9) (x5:=O U x.count) (H5.out.at_ (p:=w.1.size) (t:=31) (cs:=#[O U 0,ψ none 0 0,ψ none 0 0,ψ none 0 0,ψ none 0 0,O U 0]) (by simp)) H5.out.1 (lr _)
        rw [e9']
        have hr9:=HR.out w9 (M5.out.trans (Mid.of hg9 (fun k e=>by injection e;omega)))
        exact bodyPost_ret (v:=σ #[O U x.key,ψ A9 x.counts.length c9,ψ B9 x.trusts.length d9,ψ C9 x.cells.length e9,ψ E9 x.slots.length f9,O U x.count]) (by simp [results,results29,go_sem,d0,d1,d2,d3,d4,d5]) rfl ⟨x,_,rfl,hr9,.inl HX.out,hb9⟩
      | true=>
        obtain ⟨h2,hinv⟩:=VolG.inv HX.out.2 hok
        have H2:=hid h2
        clear h2
        have H3:=hid h3.drew
        have M3:=hid (m3.trans (Mid.drew _ _ _))
        have z3:w2.1.size < w5.1.size:=h3.lt (x:=(w2.1.size,31,#[O U x.key,ψ A9 x.counts.length c9,ψ B9 x.trusts.length d9,ψ C9 x.cells.length e9,ψ E9 x.slots.length f9,O U x.count])) (by simp)
        have z2:=M3.out.2.2.2.1
        clear h3 m3
        go_upto_region 4 with fail
        obtain ⟨X0,Y0,X1,Y1,-⟩:=H3.out.rd
        have LV:∀ (n:Int) (u:World),Mid 0 w1.1.size w2 u -> Calls prog 88 #[σ #[O U x.key,ψ A9 x.counts.length c9,ψ B9 x.trusts.length d9,ψ C9 x.cells.length e9,ψ E9 x.slots.length f9,O U x.count],O U n] u (Ci u (Ah x.toN n)):=fun n u hm=>Hk x.toN _ u hinv ((HR.out u hm).two H2.out) n
        have HLV:=hid LV
        have HI:=hid hinv
        clear LV hinv
        go_region_with (first
         | (go_at_call 84;refine (Bp w0 (w.1.size + 1) Ac l cap 4 _ HN.out H3.out.2.1 (by omega)).mono ?_;rintro e wx ⟨q,rfl,iq,s5,g5⟩;have H5:=hid (H3.out.step s5 g5);have M5:=hid (M3.out.trans (Mid.of g5 (fun k e=>by injection e;omega)));obtain ⟨mc0,mf0,mc1,mf1,-⟩:=H5.out.rd;clear s5 g5 iq)
         | (go_at_call 88;refine (HLV.out q wx M5.out).mono ?_;rintro e wy ⟨cs8,rfl,hv8,b8⟩;obtain ⟨A8,c8,B8,d8,C8,e8,g8,rfl⟩:=hv8.litsD;have H6:=hid (H5.out.below b8);have M6:=hid (M5.out.trans (Mid.of_below b8));have HV8:=hid hv8;obtain ⟨nc0,nf0,nc1,nf1,-⟩:=H6.out.rd;clear hv8 b8))
        all_goals
         go_upto_region 5 with fail
         have z6:w2.1.size < wx.1.size:=Nat.lt_of_lt_of_le (H5.out.lt (x:=(w2.1.size,31,#[O U x.key,ψ A9 x.counts.length c9,ψ B9 x.trusts.length d9,ψ C9 x.cells.length e9,ψ E9 x.slots.length f9,O U x.count])) (by simp)) (lr _)
         have p1:=Ed (x0:=O U (Ah x.toN q).1.key) (x1:=ψ A8 (Ah x.toN q).1.counts.length c8) (x2:=ψ B8 (Ah x.toN q).1.trusts.length d8) (x3:=ψ C8 (Ah x.toN q).1.cells.length e8) (x4:=ψ (some ⟨g8,0,none⟩) 2 2) (x5:=O U (Ah x.toN q).1.count) (H6.out.at_ (p:=w2.1.size) (t:=31) (cs:=#[O U x.key,ψ A9 x.counts.length c9,ψ B9 x.trusts.length d9,ψ C9 x.cells.length e9,ψ E9 x.slots.length f9,O U x.count]) (by simp))
         have h7:=H6.out.putX p1.2 (by omega) (by intro y hy;simp only [List.mem_cons,List.not_mem_nil,or_false] at hy;subst hy;simp only [];omega) p1.1
         have hv7:=HV8.out.out p1.2 z6
         generalize World.setCell _ _ _ = w7 at h7 hv7 |-
         have H7:=hid h7
         have HV7:=hid hv7
         clear h7 hv7 p1 H6 HV8 H5 M5 M6 X0 Y0 X1 Y1 mc0 mf0 mc1 mf1 nc0 nf0 nc1 nf1
         obtain ⟨X0,Y0,X1,Y1,-⟩:=H7.out.rd
         go_wp2_with fail
         obtain ⟨w9,e9',⟨d0,d1,d2,d3,d4,d5⟩,hb9,hg9⟩:=AN (w:=w) (x0:=O U (Ah x.toN q).1.key) (x1:=ψ A8 (Ah x.toN q).1.counts.length c8) (x2:=ψ B8 (Ah x.toN q).1.trusts.length d8) (x3:=ψ C8 (Ah x.toN q).1.cells.length e8) (x4:=ψ (some ⟨g8,0,none⟩) 2 2) (x5:=O U (Ah x.toN q).1.count) (H7.out.at_ (p:=w.1.size) (t:=31) (cs:=#[O U 0,ψ none 0 0,ψ none 0 0,ψ none 0 0,ψ none 0 0,O U 0]) (by simp)) H7.out.1 (lr _)
         rw [e9']
         have hv9:VolQ w9 wx.1.size (some (Ah x.toN q).1) (σ #[O U (Ah x.toN q).1.key,ψ A8 (Ah x.toN q).1.counts.length c8,ψ B8 (Ah x.toN q).1.trusts.length d8,ψ C8 (Ah x.toN q).1.cells.length e8,ψ (some ⟨g8,0,none⟩) 2 2,O U (Ah x.toN q).1.count]):=HV7.out.out hg9 (by omega)
         exact bodyPost_ret (v:=σ #[O U (Ah x.toN q).1.key,ψ A8 (Ah x.toN q).1.counts.length c8,ψ B8 (Ah x.toN q).1.trusts.length d8,ψ C8 (Ah x.toN q).1.cells.length e8,ψ (some ⟨g8,0,none⟩) 2 2,O U (Ah x.toN q).1.count]) (by simp [results,results29,go_sem,d0,d1,d2,d3,d4,d5]) rfl ⟨_,_,rfl,hv9.reads,.inr ⟨_,rfl,Du HI.out q⟩,hb9⟩
theorem Jw:type_of% CF.1:=CF.1
theorem II:type_of% CF.2.1:=CF.2.1
theorem Jo:type_of% CF.2.2:=CF.2.2

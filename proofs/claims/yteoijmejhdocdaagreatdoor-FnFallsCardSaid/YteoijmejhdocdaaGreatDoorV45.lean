import Derived.Test.YteoijmejhdocdaaGreatDoorV43
import Derived.Test.YteoijmejhdocdaaGreatDoorV44
namespace Go.Proofs.YteoijmejhdocdaaGreatDoor.Mx
open Go.ChangeShapes Go.WideShapes Go.ChangeAt Go.RowKit
set_option linter.unusedVariables false
open Go.Lib (hid)
open Go.Proofs.Tryz
set_option maxRecDepth 20000
set_option maxHeartbeats 64000000
open Value renaming int → O, slice → ψ, bool → φ, agg → σ
open IntKind renaming i64 → U
open Ending renaming returned → τ
theorem Fy {u v:World} {p:Nat} (hg:u.grownBy v (some p)):∃ u',u'.1.size = u.1.size /\ u.grownBy u' (some p) /\ Below u'.1.size u' v:=by
 have hs:=hg.size
 have hz:(v.heap.extract 0 u.1.size).size = u.1.size:=by simp;omega
 have hk:∀ k,k < u.1.size -> (v.heap.extract 0 u.1.size)[k]? = v.1[k]?:=fun k hk=>by
  rw [Array.getElem?_extract];simp;intro hh;omega
 refine ⟨{ v with heap:=v.heap.extract 0 u.1.size },hz,⟨hg.os,hg.tape,hg.output,Nat.le_of_eq hz.symm,fun k hk' hr=>(hk k hk').trans (hg.block k hk' hr)⟩,⟨rfl,rfl,rfl,by rw [hz];exact hs,fun k hk'=>?_⟩⟩
 rw [hz] at hk';exact (hk k hk').symm
theorem Ny {u w3 v:World} {b p lo hi:Nat} (hg:u.grownBy w3 (some p)) (hm:Mid lo hi w3 v) (hb:b <= lo) (hbu:b <= u.1.size):BO b (some p) u v:=
 ⟨hm.1.trans hg.os,hm.2.1.trans hg.tape,hm.2.2.1.trans hg.output,Nat.le_trans hg.size hm.2.2.2.1,fun k hk hne=>(hm.2.2.2.2 k (Nat.lt_of_lt_of_le (Nat.lt_of_lt_of_le hk hbu) hg.size) (.inl (Nat.lt_of_lt_of_le hk hb))).trans (hg.block k (Nat.lt_of_lt_of_le hk hbu) (fun e=>hne e.symm))⟩
theorem VolO.countPut {u:World} {base:Nat} {x:VolN} {a5 a4 a3 a2 a1 a0:Value} (n:Int) (h:VolO u base x (σ #[a0,a1,a2,a3,a4,a5])):VolO u base { x with count:=n } (σ #[a0,a1,a2,a3,a4,O U n]):=by
 obtain ⟨A,c,B,d,C,e,g,A0,c0,C0,d0,A1,c1,C1,d1,hv,h1⟩:=h
 refine ⟨A,c,B,d,C,e,g,A0,c0,C0,d0,A1,c1,C1,d1,?_,h1⟩
 simp only [Value.agg.injEq,Array.mk.injEq,List.cons.injEq] at hv
 obtain ⟨rfl,rfl,rfl,rfl,rfl,-⟩:=hv
 rfl
theorem Dz {P:Program} {ρ:Operand -> Value} {o:Oper} {t:TypeId} {x y:Operand} {w:World} {K:Value -> World -> Prop} {p off:Nat} {T:TypeId} {old:Array Value} {a b c d:Value}
    (hc:Aa w p T old) (hsz:off + 4 <= old.size) (hop:o.op = .store t x y) (hx:ρ x = .pointer (some ⟨p,off,none⟩)) (hy:ρ y = σ #[a,b,c,d]) (hi:(P.info? t).map (·.size) = some 4) (h1:(#[a,b,c,d]:Array Value).all (·.oneCell') = true)
    (h:∀ w',Aa w' p T ((((old.setIfInBounds off a).setIfInBounds (off + 1) b).setIfInBounds (off + 2) c).setIfInBounds (off + 3) d) -> w.grownBy w' (some p) -> w'.1.size = w.1.size -> K undef w'):Bt P ((execOp ρ o).run P w) K:=by
 have e:=run_storeAt_mid (P:=P) w p off t #[a,b,c,d] (fun j hj=>⟨by rw [hc.cell];simp at hj;simp;omega,hc.frozen _⟩) hi h1
 have e2:(execOp ρ o).run P w = .ok .skip (w.setCells p off [a,b,c,d]):=by
  unfold execOp
  rw [hop]
  simp only [hx,hy,Sem.run_bind,e,Result.andThen_ok,Sem.run_pure]
 rw [e2]
 exact h _ ((((hc.set_ off a).set_ (off + 1) b).set_ (off + 2) c).set_ (off + 3) d) (Ai (Ai (Ai (Ai (Aj w (some p)) off a) (off + 1) b) (off + 2) c) (off + 3) d) (by simp [World.setCells,World.setCell])
theorem Ox {key:Int} {l:List Int} {y:Int} {T:List Tru} (h:Ba key l T) (h0:0 <= y) (h1:y <= 10000):Dq key l y T = (y,T,Fa key l y T):=by unfold Dq;rw [if_pos ⟨h,h0,h1⟩]
theorem Mo (n:Int) (w:World):Calls prog 86 #[O U n] w fun e w'=>e = τ (φ (decide (0 <= n /\ n <= 3))) /\ w = w':=by
 by_cases h0:0 <= n
 ·by_cases h1:n <= 3
  ·rw [decide_eq_true ⟨h0,h1⟩]
   go_enter func86,ntmps86
   go_wp2
   go_ret
   exact ⟨rfl,rfl⟩
  ·rw [decide_eq_false (fun h=>h1 h.2)]
   have h2:3 < n:=by omega
   go_enter func86,ntmps86
   go_wp2
   go_ret
   exact ⟨rfl,rfl⟩
 ·rw [decide_eq_false (fun h=>h0 h.1)]
  have h2:n < 0:=by omega
  go_enter func86,ntmps86
  go_wp2
  go_ret
  exact ⟨rfl,rfl⟩
theorem Ka (a0:Addr) (x:VolN) (cs:Array Value) (b p vb:Nat) (a:Int) (u:World) (he:Bad1 u a0) (hv:VolO u b x (σ cs)) (hp:Aa u p 31 cs) (hpb:p < b) (hbu:b <= u.1.size) (hcv:Aa u vb 2 #[O U a]):
    Calls prog 94 #[.pointer (some ⟨p,0,none⟩),.pointer (some ⟨vb,0,none⟩)] u (KT a0 b p (Bw x a) u):=by
 obtain ⟨A,c,B,d,C,e,g,rfl⟩:=hv.litsP
 have cc:=hcv.cell
 have pc:=hp.cell
 have HV:=hid hv
 have HP:=hid hp
 have HB:=hid (And.intro hpb hbu)
 have DY:=hid (Ie u)
 have DN:=hid (Ij a0 u he)
 clear he hv hp hcv hpb hbu
 unfold Bw
 by_cases h0:a = 0
 ·subst h0
  rw [if_pos rfl]
  obtain ⟨-,-,hbb,hgu,A0,c0,C0,d0,A1,c1,C1,d1,hsl,hset⟩:=HV.out.slotsGet
  have SL:=hid hsl
  have HSET:=hid hset
  have BG:=hid (And.intro hbb hgu)
  have sc2:=hsl.cell 2
  have sf2:=hsl.frozen 2
  simp only [List.getElem?_toArray,List.getElem?_cons_zero,List.getElem?_cons_succ] at sc2
  obtain ⟨m,hm⟩:∃ m,IntKind.i64.wrap (x.s0.mac + 1) = m:=⟨_,rfl⟩
  rw [hm]
  clear hsl hset hbb hgu DN
  go_enter func94,ntmps94
  go_wp2_with fail
  refine DY.out.mono ?_;rintro e1 w1 ⟨rfl,rfl⟩
  go_upto_region 2 with fail
  go_region
  go_upto_region 3 with fail
  have hg5:=Ai (Aj u (some g)) 2 (O U m)
  have hc5:=SL.out.set_ 2 (O U m)
  have FN:=hid (show VolO _ b _ _ /\ Aa _ p 31 _ /\ BO b (some p) u _ from ⟨(HSET.out _ x.s0.count m x.s1.count x.s1.mac hg5 hc5).below (show Below _ _ (World.drew _) from (Below.refl _ _).drew),(HP.out.grown hg5 (by intro e;injection e;have:=HB.out.1;have:=BG.out.1;omega)).below (show Below (World.setCell _ _ _).1.size _ (World.drew _) from (Below.refl _ _).drew) (HP.out.grown hg5 (by intro e;injection e;have:=HB.out.1;have:=BG.out.1;omega)).lt,BO.of ((bgb (Below.refl b u) hg5 HB.out.2 BG.out.1).drew)⟩)
  clear hg5 hc5 SL HSET sc2 sf2
  generalize World.drew _ = w5 at FN |-
  go_wp2_with fail
  go_ret
  exact ⟨.inl rfl,_,FN.out.2.1,FN.out.1,FN.out.2.2⟩
 by_cases h1:a = 1
 ·subst h1
  rw [if_neg (by decide),if_pos rfl]
  obtain ⟨-,-,hbb,hgu,A0,c0,C0,d0,A1,c1,C1,d1,hsl,hset⟩:=HV.out.slotsGet
  have SL:=hid hsl
  have HSET:=hid hset
  have BG:=hid (And.intro hbb hgu)
  have sc2:=hsl.cell 6
  have sf2:=hsl.frozen 6
  simp only [List.getElem?_toArray,List.getElem?_cons_zero,List.getElem?_cons_succ] at sc2
  obtain ⟨m,hm⟩:∃ m,IntKind.i64.wrap (x.s1.mac + 1) = m:=⟨_,rfl⟩
  rw [hm]
  clear hsl hset hbb hgu DN
  go_enter func94,ntmps94
  go_wp2_with fail
  refine DY.out.mono ?_;rintro e1 w1 ⟨rfl,rfl⟩
  go_upto_region 2 with fail
  go_region
  go_upto_region 3 with fail
  have hg5:=Ai (Aj u (some g)) 6 (O U m)
  have hc5:=SL.out.set_ 6 (O U m)
  have FN:=hid (show VolO _ b _ _ /\ Aa _ p 31 _ /\ BO b (some p) u _ from ⟨(HSET.out _ x.s0.count x.s0.mac x.s1.count m hg5 hc5).below (show Below _ _ (World.drew _) from (Below.refl _ _).drew),(HP.out.grown hg5 (by intro e;injection e;have:=HB.out.1;have:=BG.out.1;omega)).below (show Below (World.setCell _ _ _).1.size _ (World.drew _) from (Below.refl _ _).drew) (HP.out.grown hg5 (by intro e;injection e;have:=HB.out.1;have:=BG.out.1;omega)).lt,BO.of ((bgb (Below.refl b u) hg5 HB.out.2 BG.out.1).drew)⟩)
  clear hg5 hc5 SL HSET sc2 sf2
  generalize World.drew _ = w5 at FN |-
  go_wp2_with fail
  go_ret
  exact ⟨.inl rfl,_,FN.out.2.1,FN.out.1,FN.out.2.2⟩
 ·rw [if_neg h0,if_neg h1]
  by_cases hn:a < 0
  ·go_enter func94,ntmps94
   go_wp2_with fail
   refine DN.out.mono ?_;rintro e1 w1 ⟨rfl,rfl⟩
   go_wp2_with fail
   exact ⟨rfl,.inr ⟨rfl,rfl⟩,_,HP.out,HV.out,BO.of (Below.refl _ _)⟩
  ·have h2:2 <= a:=by omega
   have h3:0 <= a:=by omega
   have h4:decide (a < 2) = false:=decide_eq_false (by omega)
   go_enter func94,ntmps94
   go_wp2_with fail
   refine DN.out.mono ?_;rintro e1 w1 ⟨rfl,rfl⟩
   go_wp2_with fail
   exact ⟨rfl,.inr ⟨rfl,rfl⟩,_,HP.out,HV.out,BO.of (Below.refl _ _)⟩
def CM (w1:World) (p:Nat) (t:TypeId) (cells:Bool -> Bool -> Array Value) (T0:TypeId) (X0:Array Value) (T1:TypeId) (X1:Array Value) (D:Nat -> Bool) (u:World):Prop:=
 (D 5 = true -> D 4 = true) /\ (D 11 = true -> D 5 = true) /\ (D 8 = true -> D 7 = true) /\ (D 8 = true -> D 5 = true) /\ (D 14 = true -> D 8 = true) /\ u.1.size = w1.1.size + (D 5).toNat + (D 8).toNat /\ (D 5 = true -> Aa u (w1.1.size) T0 X0) /\ (D 8 = true -> Aa u (w1.1.size + 1) T1 X1) /\ Aa u p t (cells (D 11) (D 14)) /\ Mid p (p + 1) w1 u
namespace CM
variable {w1 u u':World} {p:Nat} {t:TypeId} {cells:Bool -> Bool -> Array Value} {T0:TypeId} {X0:Array Value} {T1:TypeId} {X1:Array Value} {D:Nat -> Bool}
theorem start (h:Aa w1 p t (cells false false)):CM w1 p t cells T0 X0 T1 X1 (fun _=>false) w1.drew:=
 ⟨fun e=>(by cases e),fun e=>(by cases e),fun e=>(by cases e),fun e=>(by cases e),fun e=>(by cases e),rfl,fun e=>(by cases e),fun e=>(by cases e),h,⟨rfl,rfl,rfl,lr _,fun _ _ _=>rfl⟩⟩
theorem load4 (h:CM w1 p t cells T0 X0 T1 X1 D u):CM w1 p t cells T0 X0 T1 X1 (setD D 4) u:=by
 obtain ⟨dl0,ds0,dl1,dc1,ds1,hs,hm0,hm1,hp,hmid⟩:=h
 have e:∀ j,j ≠ 4 -> setD D 4 j = D j:=fun j hj=>by unfold setD;simp [hj]
 have ek:setD D 4 4 = true:=by unfold setD;simp
 unfold CM
 simp only [e 7 (by decide),e 5 (by decide),e 8 (by decide),e 11 (by decide),e 14 (by decide),ek]
 exact ⟨(by simp),ds0,dl1,dc1,ds1,hs,hm0,hm1,hp,hmid⟩
theorem load7 (h:CM w1 p t cells T0 X0 T1 X1 D u):CM w1 p t cells T0 X0 T1 X1 (setD D 7) u:=by
 obtain ⟨dl0,ds0,dl1,dc1,ds1,hs,hm0,hm1,hp,hmid⟩:=h
 have e:∀ j,j ≠ 7 -> setD D 7 j = D j:=fun j hj=>by unfold setD;simp [hj]
 have ek:setD D 7 7 = true:=by unfold setD;simp
 unfold CM
 simp only [e 4 (by decide),e 5 (by decide),e 8 (by decide),e 11 (by decide),e 14 (by decide),ek]
 exact ⟨dl0,ds0,(by simp),dc1,ds1,hs,hm0,hm1,hp,hmid⟩
theorem size5 (h:CM w1 p t cells T0 X0 T1 X1 D u) (hD:D 5 = false):u.1.size = w1.1.size:=by
 obtain ⟨dl0,ds0,dl1,dc1,ds1,hs,hm0,hm1,hp,hmid⟩:=h
 have f1:D 8 = false:=by cases e:D 8;rfl;have:=dc1 e;rw [hD] at this;cases this
 rw [hs,hD,f1]
 rfl
theorem call5 (h:CM w1 p t cells T0 X0 T1 X1 D u) (hD:D 5 = false) (hl:D 4 = true) (hb:Below u.1.size u u') (hn:u'.1.size = u.1.size + 1) (hx:Aa u' u.1.size T0 X0):CM w1 p t cells T0 X0 T1 X1 (setD D 5) u':=by
 have hsz:=h.size5 hD
 rw [hsz] at hx
 obtain ⟨dl0,ds0,dl1,dc1,ds1,hs,hm0,hm1,hp,hmid⟩:=h
 have e:∀ j,j ≠ 5 -> setD D 5 j = D j:=fun j hj=>by unfold setD;simp [hj]
 have ek:setD D 5 5 = true:=by unfold setD;simp
 unfold CM
 simp only [e 4 (by decide),e 7 (by decide),e 8 (by decide),e 11 (by decide),e 14 (by decide),ek]
 exact ⟨fun _=>hl,(by simp),dl1,(by simp),ds1,(by rw [hn,hs,hD];simp only [Bool.toNat_true,Bool.toNat_false] <;> omega),fun _=>hx,fun e=>(hm1 e).below hb (hm1 e).lt,hp.below hb hp.lt,hmid.trans (Mid.of_below hb)⟩
theorem size8 (h:CM w1 p t cells T0 X0 T1 X1 D u) (hD:D 8 = false) (hc:D 5 = true):u.1.size = w1.1.size + 1:=by
 obtain ⟨dl0,ds0,dl1,dc1,ds1,hs,hm0,hm1,hp,hmid⟩:=h
 rw [hs,hD,hc]
 rfl
theorem call8 (h:CM w1 p t cells T0 X0 T1 X1 D u) (hD:D 8 = false) (hl:D 7 = true) (hc:D 5 = true) (hb:Below u.1.size u u') (hn:u'.1.size = u.1.size + 1) (hx:Aa u' u.1.size T1 X1):CM w1 p t cells T0 X0 T1 X1 (setD D 8) u':=by
 have hsz:=h.size8 hD hc
 rw [hsz] at hx
 obtain ⟨dl0,ds0,dl1,dc1,ds1,hs,hm0,hm1,hp,hmid⟩:=h
 have e:∀ j,j ≠ 8 -> setD D 8 j = D j:=fun j hj=>by unfold setD;simp [hj]
 have ek:setD D 8 8 = true:=by unfold setD;simp
 unfold CM
 simp only [e 4 (by decide),e 7 (by decide),e 5 (by decide),e 11 (by decide),e 14 (by decide),ek]
 exact ⟨dl0,ds0,fun _=>hl,fun _=>hc,(by simp),(by rw [hn,hs,hD];simp only [Bool.toNat_true,Bool.toNat_false] <;> omega),fun e=>(hm0 e).below hb (hm0 e).lt,fun _=>hx,hp.below hb hp.lt,hmid.trans (Mid.of_below hb)⟩
theorem store11 (h:CM w1 p t cells T0 X0 T1 X1 D u) (hc:D 5 = true) (hpl:p < w1.1.size) (hn:u'.1.size = u.1.size) (hg:u.grownBy u' (some p)) (hx:Aa u' p t (cells true (D 14))):CM w1 p t cells T0 X0 T1 X1 (setD D 11) u':=by
 obtain ⟨dl0,ds0,dl1,dc1,ds1,hs,hm0,hm1,hp,hmid⟩:=h
 have e:∀ j,j ≠ 11 -> setD D 11 j = D j:=fun j hj=>by unfold setD;simp [hj]
 have ek:setD D 11 11 = true:=by unfold setD;simp
 unfold CM
 simp only [e 4 (by decide),e 7 (by decide),e 5 (by decide),e 8 (by decide),e 14 (by decide),ek]
 exact ⟨dl0,fun _=>hc,dl1,dc1,ds1,hn.trans hs,fun e=>(hm0 e).grown hg (by intro e2;injection e2;omega),fun e=>(hm1 e).grown hg (by intro e2;injection e2;omega),hx,hmid.trans (Mid.of hg (fun k e=>by injection e;omega))⟩
theorem store14 (h:CM w1 p t cells T0 X0 T1 X1 D u) (hc:D 8 = true) (hpl:p < w1.1.size) (hn:u'.1.size = u.1.size) (hg:u.grownBy u' (some p)) (hx:Aa u' p t (cells (D 11) true)):CM w1 p t cells T0 X0 T1 X1 (setD D 14) u':=by
 obtain ⟨dl0,ds0,dl1,dc1,ds1,hs,hm0,hm1,hp,hmid⟩:=h
 have e:∀ j,j ≠ 14 -> setD D 14 j = D j:=fun j hj=>by unfold setD;simp [hj]
 have ek:setD D 14 14 = true:=by unfold setD;simp
 unfold CM
 simp only [e 4 (by decide),e 7 (by decide),e 5 (by decide),e 8 (by decide),e 11 (by decide),ek]
 exact ⟨dl0,ds0,dl1,dc1,fun _=>hc,hn.trans hs,fun e=>(hm0 e).grown hg (by intro e2;injection e2;omega),fun e=>(hm1 e).grown hg (by intro e2;injection e2;omega),hx,hmid.trans (Mid.of hg (fun k e=>by injection e;omega))⟩
theorem done (h:CM w1 p t cells T0 X0 T1 X1 D u) (e5:D 5 = true) (e8:D 8 = true) (e11:D 11 = true) (e14:D 14 = true):Aa u (w1.1.size) T0 X0 /\ Aa u (w1.1.size + 1) T1 X1 /\ Aa u p t (cells true true) /\ u.1.size = w1.1.size + 2 /\ Mid p (p + 1) w1 u:=by
 obtain ⟨dl0,ds0,dl1,dc1,ds1,hs,hm0,hm1,hp,hmid⟩:=h
 rw [e5,e8] at hs
 rw [e11,e14] at hp
 exact ⟨hm0 e5,hm1 e8,hp,hs,hmid⟩
theorem skip (h:CM w1 p t cells T0 X0 T1 X1 D u) (k:Nat) (n4:k ≠ 4) (n7:k ≠ 7) (n5:k ≠ 5) (n8:k ≠ 8) (n11:k ≠ 11) (n14:k ≠ 14):CM w1 p t cells T0 X0 T1 X1 (setD D k) u:=by
 have e:∀ j,k ≠ j -> setD D k j = D j:=fun j hj=>by unfold setD;simp [Ne.symm hj]
 unfold CM
 simp only [e 4 n4,e 7 n7,e 5 n5,e 8 n8,e 11 n11,e 14 n14]
 exact h
theorem cur (h:CM w1 p t cells T0 X0 T1 X1 D u):Aa u p t (cells (D 11) (D 14)):=by
 obtain ⟨dl0,ds0,dl1,dc1,ds1,hs,hm0,hm1,hp,hmid⟩:=h
 exact hp
theorem mid (h:CM w1 p t cells T0 X0 T1 X1 D u):Mid p (p + 1) w1 u:=by
 obtain ⟨dl0,ds0,dl1,dc1,ds1,hs,hm0,hm1,hp,hmid⟩:=h
 exact hmid
end CM
theorem Ha (p:Nat) (k0 a1 e4 m0:Value) (A B:Option Addr) (na c nb d:Nat) (sn sm:Value) (BT CT:Option Addr) (T:List Tru) (M:List Ce) (tc mc:Nat) (w:World) (hs1:sn.oneCell' = true) (hs2:sm.oneCell' = true) (hp:Aa w p 31 #[k0,a1,ψ A na c,ψ B nb d,e4,m0]) (hT:∀ v,Mid p (p + 1) w v -> Trs v v.1.size BT T /\ Cls v v.1.size CT M) (h1:T.length <= 1048576) (h2:M.length <= 1048576):
    Calls prog 92 #[.pointer (some ⟨p,0,none⟩),σ #[sn,ψ BT T.length tc,sm,ψ CT M.length mc]] w fun e w'=>e = τ (.tuple #[]) /\ Aa w' p 31 #[k0,a1,(ψ (some ⟨w.1.size + 1,0,none⟩) T.length T.length),(ψ (some ⟨w.1.size + 2,0,none⟩) M.length M.length),e4,m0] /\ Aa w' (w.1.size + 1) 94 (Af truV T).toArray /\ Aa w' (w.1.size + 2) 118 (Af ceV M).toArray /\ w.grownBy w' (some p):=by
 have hpl:=hp.lt
 have TT:=hid (fun (u:World) (hm:Mid p (p + 1) w u)=>Fj BT T tc u h1 (hT u hm).1)
 have CC:=hid (fun (u:World) (hm:Mid p (p + 1) w u)=>EK CT M mc u h2 (hT u hm).2)
 have HQ:=hid hp
 clear hp hT h1 h2
 go_enter func92,ntmps92
 go_upto_region 1 with fail
 have SZ:=hid (show (w.alloc (.cells #[sn,ψ BT T.length tc,sm,ψ CT M.length mc] 91)).1.size = w.1.size + 1 by simp)
 have B0:=hid (Ap w (.cells #[sn,ψ BT T.length tc,sm,ψ CT M.length mc] 91))
 have S0:=hid (Aa.new w 91 #[sn,ψ BT T.length tc,sm,ψ CT M.length mc])
 generalize World.alloc _ _ = w0 at SZ B0 S0 |-
 refine Ao [false,false,false,false,true,true,false,true,true,true,false,true,true,false,true] (ShV [(4,(ψ BT T.length tc)),(5,(ψ (some ⟨w.1.size + 1,0,none⟩) T.length T.length)),(7,(ψ CT M.length mc)),(8,(ψ (some ⟨w.1.size + 2,0,none⟩) M.length M.length)),(9,(.pointer (some ⟨p,0,none⟩))),(12,(.pointer (some ⟨p,0,none⟩)))]) (fun D _ u=>CM w0 p 31 (fun b0 b1=>#[k0,a1,(bif b0 then (ψ (some ⟨w.1.size + 1,0,none⟩) T.length T.length) else (ψ A na c)),(bif b1 then (ψ (some ⟨w.1.size + 2,0,none⟩) M.length M.length) else (ψ B nb d)),e4,m0]) 94 (Af truV T).toArray 118 (Af ceV M).toArray D u) (by kernel_rfl) (by kernel_rfl) (fun γ=>by kernel_rfl) (fun D γ γ' w _ h=>h) (ShV.inh _) (fun γ=>CM.start (HQ.out.below B0.out hpl)) (fun γ hγ=>?_)
 have g4:γ 4 = (ψ BT T.length tc):=hγ 4 rfl
 have g5:γ 5 = (ψ (some ⟨w.1.size + 1,0,none⟩) T.length T.length):=hγ 5 rfl
 have g7:γ 7 = (ψ CT M.length mc):=hγ 7 rfl
 have g8:γ 8 = (ψ (some ⟨w.1.size + 2,0,none⟩) M.length M.length):=hγ 8 rfl
 have g9:γ 9 = (.pointer (some ⟨p,0,none⟩)):=hγ 9 rfl
 have g12:γ 12 = (.pointer (some ⟨p,0,none⟩)):=hγ 12 rfl
 have g11:γ 11 = undef:=hγ 11 rfl
 have g14:γ 14 = undef:=hγ 14 rfl
 apply Exists.intro
 refine ⟨fun D=>?_,?_,?_⟩
 ·simp only [AP,cond_true,cond_false,Nat.reduceAdd,g4,g5,g7,g8,g9,g11,g12,g14]
  iterate 15 (first
   | go_big_quiet_skip
   | (go_big_quiet_want
      go_big_quiet_op
      first
       | go_big_quiet_on
       | (apply Exists.intro
          refine ⟨fun u hu=>?_,?_⟩
          ·first
             | with_reducible rfl
             | (exact absurd hu (by simp);go_simp;first | done | with_reducible rfl)
          go_big_quiet_on)))
  exact wpQuiet_nil rfl
 ·simp only [AY,Nat.reduceAdd]
  have BW:∀ {D:Nat -> Bool} {u:World},CM w0 p 31 (fun b0 b1=>#[k0,a1,(bif b0 then (ψ (some ⟨w.1.size + 1,0,none⟩) T.length T.length) else (ψ A na c)),(bif b1 then (ψ (some ⟨w.1.size + 2,0,none⟩) M.length M.length) else (ψ B nb d)),e4,m0]) 94 (Af truV T).toArray 118 (Af ceV M).toArray D u -> Mid p (p + 1) w u:=fun h=>(Mid.of_below B0.out).trans h.mid
  have BX:∀ {D:Nat -> Bool} {u:World},CM w0 p 31 (fun b0 b1=>#[k0,a1,(bif b0 then (ψ (some ⟨w.1.size + 1,0,none⟩) T.length T.length) else (ψ A na c)),(bif b1 then (ψ (some ⟨w.1.size + 2,0,none⟩) M.length M.length) else (ψ B nb d)),e4,m0]) 94 (Af truV T).toArray 118 (Af ceV M).toArray D u -> Aa u w.1.size 91 #[sn,ψ BT T.length tc,sm,ψ CT M.length mc]:=fun h=>(h.mid.2.2.2.2 _ (by have:=SZ.out;omega) (.inr (by omega))).trans S0.out
  refine ⟨fun D u hD hd hu=>?_,fun D u hD hd hu=>?_,fun D u hD hd hu=>?_,fun D u hD hd hu=>?_,fun D u hD hd hu=>?_,fun D u hD hd hu=>?_,fun D u hD hd hu=>?_,fun D u hD hd hu=>?_,trivial⟩
  ·exact Cf ((((BX hu)).cell 1).trans rfl) rfl rfl underlying27 ⟨rfl,hu.load4⟩
  ·have dl:=hd { on:=4,ground:=Ground.data } (by simp) rfl rfl
   have hz:=(hu.size5 hD).trans SZ.out
   exact As ((TT.out u (BW hu)).mono fun e w' ⟨he,hc,hb,hs⟩=>⟨_,he.trans (by rw [hz];rfl),rfl,hu.call5 hD dl hb hs hc⟩) rfl rfl rfl rfl (by kernel_rfl)
  ·exact Cf ((((BX hu)).cell 3).trans rfl) rfl rfl underlying28 ⟨rfl,hu.load7⟩
  ·have dl:=hd { on:=7,ground:=Ground.data } (by simp) rfl rfl
   have dc:=hd { on:=5,ground:=Ground.chain } (by simp) rfl rfl
   have hz:=(hu.size8 hD dc).trans (congrArg (· + 1) SZ.out)
   exact As ((CC.out u (BW hu)).mono fun e w' ⟨he,hc,hb,hs⟩=>⟨_,he.trans (by rw [hz];rfl),rfl,hu.call8 hD dl dc hb hs hc⟩) rfl rfl rfl rfl (by kernel_rfl)
  ·exact Bj rfl rfl ⟨rfl,hu.skip 9 (by decide) (by decide) (by decide) (by decide) (by decide) (by decide)⟩
  ·have dc:=hd { on:=5,ground:=Ground.data } (by simp) rfl rfl
   exact Cp hu.cur (by simp) rfl rfl rfl (by kernel_rfl) (fun w' hc hg hn=>⟨rfl,hu.store11 dc (by have:=SZ.out;omega) hn hg hc⟩)
  ·exact Bj rfl rfl ⟨rfl,hu.skip 12 (by decide) (by decide) (by decide) (by decide) (by decide) (by decide)⟩
  ·have dc:=hd { on:=8,ground:=Ground.data } (by simp) rfl rfl
   exact Cp hu.cur (by simp) rfl rfl rfl (by kernel_rfl) (fun w' hc hg hn=>⟨rfl,hu.store14 dc (by have:=SZ.out;omega) hn hg hc⟩)
 intro D w3 hD hu
 obtain ⟨hx0,hx1,hxp,hs3,hmid⟩:=hu.done (hD 5 (by simp) rfl) (hD 8 (by simp) rfl) (hD 11 (by simp) rfl) (hD 14 (by simp) rfl)
 rw [SZ.out] at hx0 hx1
 have FN:=hid (show Aa w3 p 31 _ /\ Aa w3 (w.1.size + 1) 94 (Af truV T).toArray /\ Aa w3 (w.1.size + 2) 118 (Af ceV M).toArray /\ w.grownBy w3 (some p) from ⟨hxp,hx0,hx1,⟨hmid.1.trans B0.out.os,hmid.2.1.trans B0.out.tape,hmid.2.2.1.trans B0.out.output,Nat.le_trans B0.out.size hmid.2.2.2.1,fun k hk hr=>(hmid.2.2.2.2 k (Nat.lt_of_lt_of_le hk B0.out.size) (by have:k ≠ p:=fun e=>hr (by rw [e]);omega)).trans (B0.out.block k hk)⟩⟩)
 clear hu hD hx0 hx1 hxp hs3 hmid hγ g4 g5 g7 g8 g9 g11 g12 g14 TT CC S0 B0 HQ SZ
 go_wp2_with fail
 go_end0
 exact ⟨rfl,FN.out.1,FN.out.2.1,FN.out.2.2.1,FN.out.2.2.2⟩
theorem La (x:VolN) (A B C:Option Addr) (c d e g b p:Nat) (u:World) (hx:x.Short) (ht:0 < x.trusts.length) (hv:VolO u b x (σ #[O U x.key,ψ A x.counts.length c,ψ B x.trusts.length d,ψ C x.cells.length e,ψ (some ⟨g,0,none⟩) 2 2,O U x.count])) (hp:Aa u p 31 #[O U x.key,ψ A x.counts.length c,ψ B x.trusts.length d,ψ C x.cells.length e,ψ (some ⟨g,0,none⟩) 2 2,O U x.count]) (hpb:p < b) (hbu:b <= u.1.size):
    Calls prog 91 #[.pointer (some ⟨p,0,none⟩)] u fun e1 w'=>e1 = τ (.tuple #[]) /\ Aa w' p 31 #[O U x.key,ψ A x.counts.length c,ψ B x.trusts.length d,ψ C x.cells.length e,ψ (some ⟨g,0,none⟩) 2 2,O U x.count] /\ VolO w' b { x with trusts:=x.trusts.map FJ } (σ #[O U x.key,ψ A x.counts.length c,ψ B x.trusts.length d,ψ C x.cells.length e,ψ (some ⟨g,0,none⟩) 2 2,O U x.count]) /\ Below b u w':=by
 obtain ⟨gt,rfl,hg0,hgu,-⟩:=hv.trustsGet ht
 have hx2:=hx.2.1
 have HV:=hid hv
 have HP:=hid hp
 clear hv hp hx
 go_enter func91,ntmps91
 have pc:=HP.out.cell
 have pf:=HP.out.frozen
 go_wp2_with (at_builtin)
 clear pc pf
 go_loopw [8] (fun i v=>∃ k:Nat,k <= x.trusts.length /\ i = O U k /\ Aa v p 31 #[O U x.key,ψ A x.counts.length c,ψ (some ⟨gt,0,none⟩) x.trusts.length d,ψ C x.cells.length e,ψ (some ⟨g,0,none⟩) 2 2,O U x.count] /\ VolO v b { x with trusts:=DB x.trusts k } (σ #[O U x.key,ψ A x.counts.length c,ψ (some ⟨gt,0,none⟩) x.trusts.length d,ψ C x.cells.length e,ψ (some ⟨g,0,none⟩) 2 2,O U x.count]) /\ Below b u v) (fun i _=>x.trusts.length - (intOf i).toNat)
 case atStart=>exact ⟨0,by omega,rfl,HP.out,by rw [JJ];exact HV.out,Below.refl _ _⟩
 case round=>
  obtain ⟨k,hk,rfl,hkp,hvp,hbp⟩:=hrel
  clear HP HV
  have pc:=hkp.cell
  have pf:=hkp.frozen
  have hbs:=hbp.size
  by_cases hlt:k < x.trusts.length
  ·obtain ⟨g1,e1,-,-,hrow,hset⟩:=hvp.trustsGet (by rw [Gn];exact ht)
   injection e1 with e1;injection e1 with e1;subst e1
   have hl:=Gn x.trusts k
   have hlt2:k < (DB x.trusts k).length:=by omega
   have hfz:=Dw hrow
   obtain ⟨p0,p1,p2,p3,p4,p5,p6,p7⟩:=hrow.here hlt2
   have hlt':(k:Int) < x.trusts.length:=by omega
   have hk0':(0:Int) <= k:=by omega
   have hr5:=hrow.fail hlt2
   have hg5:=Ai (Aj wr (some gt)) (k * 8 + 7) (φ true)
   have hv5:=hset (wr.setCell ⟨gt,k * 8 + 7,none⟩ (φ true)) ((DB x.trusts k).set k (FJ ((DB x.trusts k).getD k default))) (by simp) hg5 (by rw [List.length_set];exact hr5)
   have hk5:=hkp.grown hg5 (by intro e;injection e;omega)
   have hb5:=bgb hbp hg5 (by omega) hg0
   have HV5:=hid hv5
   have HK5:=hid hk5
   have HB5:=hid hb5
   have HL:=hid hl
   clear hv5 hk5 hb5 hr5 hg5 hset hrow hvp hkp p0 p1 p2 p3 p4 p5 p6 hl hlt2
   go_wp2_with fail
   go_roundw
   case rel=>exact ⟨k + 1,by omega,by go_num,HK5.out,by rw [<- JT x.trusts k hlt];exact HV5.out,HB5.out⟩
   case measure=>simp [intOf];omega
  ·obtain rfl:k = x.trusts.length:=by omega
   rw [Ln] at hvp
   have HV:=hid hvp
   have HP:=hid hkp
   have HB:=hid hbp
   clear hvp hkp hbp pc pf
   go_wp2_with fail
   go_end0
   exact ⟨rfl,HP.out,HV.out,HB.out⟩
theorem Ki (a0:Addr) (x:VolN) (cs:Array Value) (b p:Nat) (u:World) (hx:x.Inv) (hv:VolO u b x (σ cs)) (hp:Aa u p 31 cs) (hpb:p < b) (hbu:b <= u.1.size):
    Calls prog 89 #[.pointer (some ⟨p,0,none⟩)] u (KT a0 b p (Bc x) u):=by
 obtain ⟨A,c,B,d,C,e,g,rfl⟩:=hv.litsP
 have hr:=hv.reads
 obtain ⟨A1,c1,B1,d1,C1,e1,b1,o1,s1,eq,i1,i2,i3,i4,i5,i6,i7⟩:=hr
 injection eq with eq
 simp only [Array.mk.injEq,List.cons.injEq,Value.slice.injEq,Option.some.injEq,Addr.mk.injEq,true_and,and_true] at eq
 obtain ⟨⟨rfl,rfl⟩,⟨rfl,rfl⟩,⟨rfl,rfl⟩,⟨⟨rfl,rfl⟩,rfl⟩⟩:=eq
 have hsh:=hx.short
 have hsl:DM u u.1.size (some ⟨g,0,none⟩) [x.s0,x.s1]:=by
  intro i hi
  match i,hi with
  | 0,_=>exact ⟨g,0,rfl,i4,by simpa using i5⟩
  | 1,_=>exact ⟨g,0,rfl,i4,by simpa using i6⟩
 have hf0:=hx.2.2.2.2.1.fits hx.1
 have hf1:=hx.2.2.2.2.2.fits hx.1
 have CH:=hid (show ∀ (v:World),Below u.1.size u v -> Calls prog 90 #[σ #[O U x.key,ψ A x.counts.length c],ψ (some ⟨g,0,none⟩) 2 2,O U x.count] v fun e w'=>e = τ (O U (BK x.key x.counts [x.s0,x.s1] x.count)) /\ Below v.1.size v w' from
  fun v hb=>Jq x.key A (some ⟨g,0,none⟩) x.counts c i7 [x.s0,x.s1] 2 (by simp) x.count v (by have:=hsh.1;omega) ((i1.below hb (lr _)).more hb.size) (by simp) (hsl.grow hb) (by
   intro i hi
   match i,hi with
   | 0,_=>exact hf0
   | 1,_=>exact hf1))
 have HV:=hid hv
 have HP:=hid hp
 have HB:=hid (And.intro hpb hbu)
 have hpl:p < u.1.size:=by omega
 have DT:=hid (fun (v:World) (hb:Below u.1.size u v)=>La x A B C c d e g b p v hsh hx.pos (HV.out.below hb) (HP.out.below hb hpl) HB.out.1 (Nat.le_trans HB.out.2 hb.size))
 obtain ⟨-,-,hbb,hgu,A0,c0,C0,d0,A1',c1',C1',d1',hsl8,-⟩:=HV.out.slotsGet
 have S8:=hid hsl8
 have hch:=Gu x.key x.counts x.s0 x.s1 x.count
 have SH:=hid hsh
 unfold Bc
 generalize BK x.key x.counts [x.s0,x.s1] x.count = ci at CH hch |-
 clear hv hp hpb hbu hsl8 hsl i1 i2 i3 i5 i6 i7 hf0 hf1 hx hsh
 go_enter func89,ntmps89
 go_upto_region 1 with fail
 refine Aw (C:=fun v=>Below u.1.size u v) (by kernel_rfl) (by kernel_rfl) (show Below u.1.size u u.drew from (Below.refl _ _).drew) ?_
 iterate 14 (first
  | go_big_quiet_skip
  | (go_big_quiet_want
     go_big_quiet_op
     first
      | go_big_quiet_on
      | (apply Exists.intro
         refine ⟨fun v hv=>?_,?_⟩
         ·first
            | with_reducible rfl
            | (go_at_call 90;exact (CH.out v hv).mono fun e w' ⟨he,hb⟩=>⟨he,hv.trans (hb.mono hv.size)⟩)
            | (have pc:=(HP.out.below hv hpl).cell;go_simp;first | done | with_reducible rfl)
         go_big_quiet_on)))
 refine wpQuiet_nil ?_
 intro w1 hb1
 clear CH
 have B1:=hid hb1
 have hb1s:=hb1.size
 clear hb1
 rcases hch with rfl | rfl | rfl
 ·rw [if_pos (by decide)]
  go_wp2_with fail
  refine (DT.out w1 B1.out).mono ?_;rintro e1 w2 ⟨rfl,hp2,hv2,hb2⟩
  have FN:=hid (show Aa w2 p 31 _ /\ VolO w2 b _ _ /\ BO b (some p) u w2 from ⟨hp2,hv2,BO.of ((B1.out.mono HB.out.2).trans hb2)⟩)
  clear hp2 hv2 hb2 DT
  go_wp2_with fail
  go_ret
  exact ⟨.inl rfl,_,FN.out.1,FN.out.2.1,FN.out.2.2⟩
 ·rw [if_neg (by decide),if_pos rfl]
  have s1:=S8.out.below B1.out hgu
  have pp:=HP.out.below B1.out hpl
  have pc:=pp.cell
  have pf:=pp.frozen
  have sc0:=s1.cell 0
  have sc1:=s1.cell 1
  have sc2:=s1.cell 2
  have sc3:=s1.cell 3
  have sf:=s1.frozen
  simp only [List.getElem?_toArray,List.getElem?_cons_zero,List.getElem?_cons_succ] at sc0 sc1 sc2 sc3
  have CB:=hid (Ha p (O U x.key) (ψ A x.counts.length c) (ψ (some ⟨g,0,none⟩) 2 2) (O U x.count) B C x.trusts.length d x.cells.length e (O U x.s0.count) (O U x.s0.mac) A0 C0 x.s0.trusts x.s0.cells c0 d0 w1 rfl rfl pp (fun v hm=>by
   have hq:=((HV.out.below B1.out).mid hm (by have:=HB.out.1;omega))
   obtain ⟨-,-,-,hg9,A9,c9,C9,d9,A8,c8,C8,d8,h8,-⟩:=hq.slotsGet
   have hr9:=hq.reads
   obtain ⟨_,_,_,_,_,_,b9,o9,s9,eq9,j1,j2,j3,j4,j5,j6,j7⟩:=hr9
   injection eq9 with eq9
   simp only [Array.mk.injEq,List.cons.injEq,Value.slice.injEq,Option.some.injEq,Addr.mk.injEq,true_and,and_true] at eq9
   obtain ⟨-,-,-,⟨⟨rfl,rfl⟩,-⟩⟩:=eq9
   obtain ⟨B7,t7,C7,m7,q0,q1,q2,q3,hr7⟩:=j5
   have hm8:Aa v g 91 _:=(hm.2.2.2.2 g s1.lt (.inr (by have:=HB.out.1;omega))).trans s1
   have z1:=(hm8.cell 1).symm.trans q1
   have z3:=(hm8.cell 3).symm.trans q3
   simp only [List.getElem?_toArray,List.getElem?_cons_zero,List.getElem?_cons_succ,Option.some.injEq,Value.slice.injEq,true_and] at z1 z3
   obtain ⟨rfl,rfl⟩:=z1
   obtain ⟨rfl,rfl⟩:=z3
   exact hr7) SH.out.2.2.2.1 SH.out.2.2.2.2.1)
  go_wp2_with fail
  refine CB.out.mono ?_;rintro e1 w2 ⟨rfl,hp2,hx0,hx1,hg2⟩
  obtain ⟨u',us,ug,ub⟩:=Fy hg2
  have vv:=((HV.out.below B1.out).out ug HB.out.1).newBoth (v:=w2) (M:=x.s0.cells) (T:=x.s0.trusts) (N:=w1.1.size + 2) (N':=w1.1.size + 1) ub (BJ hx1 (lr _) (Ak Au) (by have:=SH.out.2.2.2.2.1;unfold maxLen;omega)) (BJ hx0 (lr _) (Ak AD) (by have:=SH.out.2.2.2.1;unfold maxLen;omega)) (by omega) (by omega) (by intro y hy hy2;simp [Ae] at hy hy2;omega) (by have:=HB.out.2;omega)
  have FN:=hid (show Aa w2 p 31 _ /\ VolO w2 b _ _ /\ BO b (some p) u w2 from ⟨hp2,vv,(BO.of (B1.out.mono HB.out.2)).trans (BO.gb hg2 (by have:=HB.out.2;omega))⟩)
  clear hp2 hx0 hx1 hg2 us ug ub vv CB s1 pp pc pf sc0 sc1 sc2 sc3 sf
  go_wp2_with fail
  go_ret
  exact ⟨.inl rfl,_,FN.out.1,FN.out.2.1,FN.out.2.2⟩
 ·rw [if_neg (by decide),if_neg (by decide)]
  have s1:=S8.out.below B1.out hgu
  have pp:=HP.out.below B1.out hpl
  have pc:=pp.cell
  have pf:=pp.frozen
  have sc0:=s1.cell 4
  have sc1:=s1.cell 5
  have sc2:=s1.cell 6
  have sc3:=s1.cell 7
  have sf:=s1.frozen
  simp only [List.getElem?_toArray,List.getElem?_cons_zero,List.getElem?_cons_succ] at sc0 sc1 sc2 sc3
  have CB:=hid (Ha p (O U x.key) (ψ A x.counts.length c) (ψ (some ⟨g,0,none⟩) 2 2) (O U x.count) B C x.trusts.length d x.cells.length e (O U x.s1.count) (O U x.s1.mac) A1' C1' x.s1.trusts x.s1.cells c1' d1' w1 rfl rfl pp (fun v hm=>by
   have hq:=((HV.out.below B1.out).mid hm (by have:=HB.out.1;omega))
   obtain ⟨-,-,-,hg9,A9,c9,C9,d9,A8,c8,C8,d8,h8,-⟩:=hq.slotsGet
   have hr9:=hq.reads
   obtain ⟨_,_,_,_,_,_,b9,o9,s9,eq9,j1,j2,j3,j4,j5,j6,j7⟩:=hr9
   injection eq9 with eq9
   simp only [Array.mk.injEq,List.cons.injEq,Value.slice.injEq,Option.some.injEq,Addr.mk.injEq,true_and,and_true] at eq9
   obtain ⟨-,-,-,⟨⟨rfl,rfl⟩,-⟩⟩:=eq9
   obtain ⟨B7,t7,C7,m7,q0,q1,q2,q3,hr7⟩:=j6
   have hm8:Aa v g 91 _:=(hm.2.2.2.2 g s1.lt (.inr (by have:=HB.out.1;omega))).trans s1
   have z1:=(hm8.cell 5).symm.trans q1
   have z3:=(hm8.cell 7).symm.trans q3
   simp only [List.getElem?_toArray,List.getElem?_cons_zero,List.getElem?_cons_succ,Option.some.injEq,Value.slice.injEq,true_and] at z1 z3
   obtain ⟨rfl,rfl⟩:=z1
   obtain ⟨rfl,rfl⟩:=z3
   exact hr7) SH.out.2.2.2.2.2.1 SH.out.2.2.2.2.2.2)
  go_wp2_with fail
  refine CB.out.mono ?_;rintro e1 w2 ⟨rfl,hp2,hx0,hx1,hg2⟩
  obtain ⟨u',us,ug,ub⟩:=Fy hg2
  have vv:=((HV.out.below B1.out).out ug HB.out.1).newBoth (v:=w2) (M:=x.s1.cells) (T:=x.s1.trusts) (N:=w1.1.size + 2) (N':=w1.1.size + 1) ub (BJ hx1 (lr _) (Ak Au) (by have:=SH.out.2.2.2.2.2.2;unfold maxLen;omega)) (BJ hx0 (lr _) (Ak AD) (by have:=SH.out.2.2.2.2.2.1;unfold maxLen;omega)) (by omega) (by omega) (by intro y hy hy2;simp [Ae] at hy hy2;omega) (by have:=HB.out.2;omega)
  have FN:=hid (show Aa w2 p 31 _ /\ VolO w2 b _ _ /\ BO b (some p) u w2 from ⟨hp2,vv,(BO.of (B1.out.mono HB.out.2)).trans (BO.gb hg2 (by have:=HB.out.2;omega))⟩)
  clear hp2 hx0 hx1 hg2 us ug ub vv CB s1 pp pc pf sc0 sc1 sc2 sc3 sf
  go_wp2_with fail
  go_ret
  exact ⟨.inl rfl,_,FN.out.1,FN.out.2.1,FN.out.2.2⟩
def EA (w:World) (T:List Tru) (cnt mac:Int) (D:Nat -> Bool) (γ:Nat -> Value) (u:World):Prop:=
 Below w.1.size w u /\
 (D 13 = true -> ∃ A c,γ 13 = σ #[O U cnt,ψ A T.length c,O U mac] /\ Bl u w.1.size (ψ A T.length c) T) /\
 (D 14 = true -> ∃ g,γ 14 = .pointer (some ⟨g,0,none⟩) /\ w.1.size <= g /\ (D 15 = false -> Aa u g 89 #[O U 0,ψ none 0 0,O U 0]) /\ (D 15 = true -> ∀ cs,γ 13 = σ cs -> Aa u g 89 cs) /\ (D 13 = true -> ∀ A n c,γ 13 = σ #[O U cnt,ψ A n c,O U mac] -> g ∉ Ae (ψ A n c))) /\
 (D 15 = true -> D 13 = true /\ D 14 = true)
section
variable {w u v:World} {T:List Tru} {cnt mac:Int} {D:Nat -> Bool} {γ γ':Nat -> Value}
theorem EA.loc (ha:∀ i,D i = true -> γ i = γ' i) (h:EA w T cnt mac D γ u):EA w T cnt mac D γ' u:=by
 obtain ⟨h1,h2,h3,h4⟩:=h
 refine ⟨h1,fun e=>?_,fun e=>?_,h4⟩
 ·rw [<- ha 13 e];exact h2 e
 ·obtain ⟨g,q1,q2,q3,q4,q5⟩:=h3 e
  exact ⟨g,by rw [<- ha 14 e];exact q1,q2,q3,fun e5=>by rw [<- ha 13 (h4 e5).1];exact q4 e5,fun e3=>by rw [<- ha 13 e3];exact q5 e3⟩
theorem EA.skip (h:EA w T cnt mac D γ u) (k:Nat) (n3:13 ≠ k) (n4:14 ≠ k) (n5:15 ≠ k) {z:Value}:EA w T cnt mac (setD D k) (setG γ k z) u:=by
 unfold EA
 simp only [An n3,An n4,An n5,At n3,At n4]
 exact h
theorem EA.start:EA w T cnt mac (fun _=>false) γ w.drew:=
 ⟨⟨rfl,rfl,rfl,lr _,fun _ _=>rfl⟩,fun e=>(by cases e),fun e=>(by cases e),fun e=>(by cases e)⟩
theorem EA.call (h:EA w T cnt mac D γ u) (hD:D 13 = false) (hb:Below u.1.size u v) {A:Option Addr} {c:Nat} (hr:Bl v u.1.size (ψ A T.length c) T):EA w T cnt mac (setD D 13) (setG γ 13 (σ #[O U cnt,ψ A T.length c,O U mac])) v:=by
 obtain ⟨h1,h2,h3,h4⟩:=h
 have d15:D 15 = false:=by cases e:D 15 with | false=>rfl | true=>rw [(h4 e).1] at hD;cases hD
 refine ⟨h1.trans (hb.mono h1.size),fun _=>⟨A,c,By,AV hr h1.size⟩,fun e=>?_,fun e=>?_⟩
 ·rw [An (by omega)] at e
  obtain ⟨g,q1,q2,q3,q4,q5⟩:=h3 e
  refine ⟨g,by rw [At (by omega)];exact q1,q2,fun _=>(q3 d15).below hb (q3 d15).lt,fun e5=>?_,fun _ A9 n9 c9 e9 hm=>?_⟩
  ·rw [An (by omega),d15] at e5;cases e5
  ·rw [By] at e9
   simp only [Value.agg.injEq,Array.mk.injEq,List.cons.injEq,Value.slice.injEq,true_and,and_true] at e9
   obtain ⟨rfl,rfl,rfl⟩:=e9
   have:=(Ax hr g hm).1
   have:=(q3 d15).lt
   omega
 ·rw [An (by omega),d15] at e;cases e
theorem EA.made (h:EA w T cnt mac D γ u) (hD:D 14 = false):EA w T cnt mac (setD D 14) (setG γ 14 (.pointer (some ⟨u.1.size,0,none⟩))) (u.alloc (.cells #[O U 0,ψ none 0 0,O U 0] 89)):=by
 obtain ⟨h1,h2,h3,h4⟩:=h
 have d15:D 15 = false:=by cases e:D 15 with | false=>rfl | true=>rw [(h4 e).2] at hD;cases hD
 have hb:=Ap u (.cells #[O U 0,ψ none 0 0,O U 0] 89)
 refine ⟨h1.trans (hb.mono h1.size),fun e=>?_,fun _=>⟨u.1.size,By,h1.size,fun _=>Aa.new u _ _,fun e5=>?_,fun e3 A9 n9 c9 e9 hm=>?_⟩,fun e=>?_⟩
 ·rw [An (by omega)] at e
  obtain ⟨A,c,q1,q2⟩:=h2 e
  exact ⟨A,c,by rw [At (by omega)];exact q1,Cm q2 fun y hy=>hb.block y (Ax q2 y hy).2⟩
 ·rw [An (by omega),d15] at e5;cases e5
 ·rw [An (by omega)] at e3
  obtain ⟨A,c,q1,q2⟩:=h2 e3
  rw [At (by omega),q1] at e9
  simp only [Value.agg.injEq,Array.mk.injEq,List.cons.injEq,Value.slice.injEq,true_and,and_true] at e9
  obtain ⟨rfl,rfl,rfl⟩:=e9
  have:=(Ax q2 _ hm).2
  omega
 ·rw [An (by omega),d15] at e;cases e
theorem EA.store (h:EA w T cnt mac D γ u) (d13:D 13 = true) (d14:D 14 = true) {g:Nat} {cs:Array Value} (eg:γ 14 = .pointer (some ⟨g,0,none⟩)) (ec:γ 13 = σ cs) (hg:u.grownBy v (some g)) (hc:Aa v g 89 cs) {z:Value}:EA w T cnt mac (setD D 15) (setG γ 15 z) v:=by
 obtain ⟨h1,h2,h3,h4⟩:=h
 obtain ⟨g',q1,q2,q3,q4,q5⟩:=h3 d14
 rw [eg] at q1
 injection q1 with q1;injection q1 with q1;injection q1 with q1
 subst q1
 refine ⟨bgb h1 hg h1.size q2,fun e=>?_,fun e=>⟨g,by rw [At (by omega)];exact eg,q2,fun e5=>?_,fun _ cs9 e9=>?_,fun _ A9 n9 c9 e9=>?_⟩,fun _=>⟨?_,?_⟩⟩
 ·obtain ⟨A,c,p1,p2⟩:=h2 d13
  exact ⟨A,c,by rw [At (by omega)];exact p1,AK p2 hg (q5 d13 A _ c p1)⟩
 ·rw [CQ] at e5;cases e5
 ·rw [At (by omega),ec] at e9;injection e9 with e9;exact e9 ▸ hc
 ·rw [At (by omega)] at e9;exact q5 d13 A9 n9 c9 e9
 ·rw [An (by omega)];exact d13
 ·rw [An (by omega)];exact d14
end
def Put1 (w1:World) (p:Nat) (t:TypeId) (cells:Bool -> Array Value) (T0:TypeId) (X0:Array Value) (D:Nat -> Bool) (u:World):Prop:=
 (D 17 = true -> D 16 = true) /\ (D 20 = true -> D 17 = true) /\ u.1.size = w1.1.size + (D 17).toNat /\ (D 17 = true -> Aa u (w1.1.size) T0 X0) /\ Aa u p t (cells (D 20)) /\ Mid p (p + 1) w1 u
namespace Put1
variable {w1 u u':World} {p:Nat} {t:TypeId} {cells:Bool -> Array Value} {T0:TypeId} {X0:Array Value} {D:Nat -> Bool}
theorem start (h:Aa w1 p t (cells false)):Put1 w1 p t cells T0 X0 (fun _=>false) w1.drew:=
 ⟨fun e=>(by cases e),fun e=>(by cases e),rfl,fun e=>(by cases e),h,⟨rfl,rfl,rfl,lr _,fun _ _ _=>rfl⟩⟩
theorem load16 (h:Put1 w1 p t cells T0 X0 D u):Put1 w1 p t cells T0 X0 (setD D 16) u:=by
 obtain ⟨dl0,ds0,hs,hm0,hp,hmid⟩:=h
 have e:∀ j,j ≠ 16 -> setD D 16 j = D j:=fun j hj=>by unfold setD;simp [hj]
 have ek:setD D 16 16 = true:=by unfold setD;simp
 unfold Put1
 simp only [e 17 (by decide),e 20 (by decide),ek]
 exact ⟨(by simp),ds0,hs,hm0,hp,hmid⟩
theorem size17 (h:Put1 w1 p t cells T0 X0 D u) (hD:D 17 = false):u.1.size = w1.1.size:=by
 obtain ⟨dl0,ds0,hs,hm0,hp,hmid⟩:=h
 rw [hs,hD]
 rfl
theorem call17 (h:Put1 w1 p t cells T0 X0 D u) (hD:D 17 = false) (hl:D 16 = true) (hb:Below u.1.size u u') (hn:u'.1.size = u.1.size + 1) (hx:Aa u' u.1.size T0 X0):Put1 w1 p t cells T0 X0 (setD D 17) u':=by
 have hsz:=h.size17 hD
 rw [hsz] at hx
 obtain ⟨dl0,ds0,hs,hm0,hp,hmid⟩:=h
 have e:∀ j,j ≠ 17 -> setD D 17 j = D j:=fun j hj=>by unfold setD;simp [hj]
 have ek:setD D 17 17 = true:=by unfold setD;simp
 unfold Put1
 simp only [e 16 (by decide),e 20 (by decide),ek]
 exact ⟨fun _=>hl,(by simp),(by rw [hn,hs,hD];simp only [Bool.toNat_true,Bool.toNat_false] <;> omega),fun _=>hx,hp.below hb hp.lt,hmid.trans (Mid.of_below hb)⟩
theorem store20 (h:Put1 w1 p t cells T0 X0 D u) (hc:D 17 = true) (hpl:p < w1.1.size) (hn:u'.1.size = u.1.size) (hg:u.grownBy u' (some p)) (hx:Aa u' p t (cells true)):Put1 w1 p t cells T0 X0 (setD D 20) u':=by
 obtain ⟨dl0,ds0,hs,hm0,hp,hmid⟩:=h
 have e:∀ j,j ≠ 20 -> setD D 20 j = D j:=fun j hj=>by unfold setD;simp [hj]
 have ek:setD D 20 20 = true:=by unfold setD;simp
 unfold Put1
 simp only [e 16 (by decide),e 17 (by decide),ek]
 exact ⟨dl0,fun _=>hc,hn.trans hs,fun e=>(hm0 e).grown hg (by intro e2;injection e2;omega),hx,hmid.trans (Mid.of hg (fun k e=>by injection e;omega))⟩
theorem done (h:Put1 w1 p t cells T0 X0 D u) (e17:D 17 = true) (e20:D 20 = true):Aa u (w1.1.size) T0 X0 /\ Aa u p t (cells true) /\ u.1.size = w1.1.size + 1 /\ Mid p (p + 1) w1 u:=by
 obtain ⟨dl0,ds0,hs,hm0,hp,hmid⟩:=h
 rw [e17] at hs
 rw [e20] at hp
 exact ⟨hm0 e17,hp,hs,hmid⟩
theorem skip (h:Put1 w1 p t cells T0 X0 D u) (k:Nat) (n16:k ≠ 16) (n17:k ≠ 17) (n20:k ≠ 20):Put1 w1 p t cells T0 X0 (setD D k) u:=by
 have e:∀ j,k ≠ j -> setD D k j = D j:=fun j hj=>by unfold setD;simp [Ne.symm hj]
 unfold Put1
 simp only [e 16 n16,e 17 n17,e 20 n20]
 exact h
theorem cur (h:Put1 w1 p t cells T0 X0 D u):Aa u p t (cells (D 20)):=by
 obtain ⟨dl0,ds0,hs,hm0,hp,hmid⟩:=h
 exact hp
theorem mid (h:Put1 w1 p t cells T0 X0 D u):Mid p (p + 1) w1 u:=by
 obtain ⟨dl0,ds0,hs,hm0,hp,hmid⟩:=h
 exact hmid
end Put1
theorem Pe (x:VolN) (A B C:Option Addr) (c d e g b p:Nat) (st:Int) (u:World) (hx:x.Inv) (hc:x.count < 10000) (h0:0 <= st) (h3:st <= 3) (hv:VolO u b x (σ #[O U x.key,ψ A x.counts.length c,ψ B x.trusts.length d,ψ C x.cells.length e,ψ (some ⟨g,0,none⟩) 2 2,O U x.count])) (hp:Aa u p 31 #[O U x.key,ψ A x.counts.length c,ψ B x.trusts.length d,ψ C x.cells.length e,ψ (some ⟨g,0,none⟩) 2 2,O U x.count]) (hpb:p < b) (hbu:b <= u.1.size):
    Calls prog 87 #[.pointer (some ⟨p,0,none⟩),O U st] u fun e1 w'=>e1 = τ (.tuple #[]) /\ ∃ cs,Aa w' p 31 cs /\ VolO w' b (Ah x st).1 (σ cs) /\ BO b (some p) u w':=by
 have hr:=hv.reads
 obtain ⟨A1,c1,B1,d1,C1,e1,b1,o1,s1,eq,i1,i2,i3,i4,i5,i6,i7⟩:=hr
 injection eq with eq
 simp only [Array.mk.injEq,List.cons.injEq,Value.slice.injEq,Option.some.injEq,Addr.mk.injEq,true_and,and_true] at eq
 obtain ⟨⟨rfl,rfl⟩,⟨rfl,rfl⟩,⟨rfl,rfl⟩,⟨⟨rfl,rfl⟩,rfl⟩⟩:=eq
 have hsh:=hx.short
 have hc0:=hx.2.2.2.1.1
 have hpl:p < u.1.size:=by omega
 obtain ⟨n1,hn1⟩:∃ n1,n1 = x.count + 1:=⟨_,rfl⟩
 have hw1:IntKind.i64.wrap (x.count + 1) = n1:=by rw [hn1];exact IntWalk.i64_in _ (by omega)
 have hn1p:0 <= n1 /\ n1 <= 10000:=by omega
 obtain ⟨mac,hmac⟩:∃ mac,mac = Fa x.key x.counts n1 x.trusts:=⟨_,rfl⟩
 have SO:=hid (show ∀ (v:World),Below u.1.size u v -> Calls prog 69 #[σ #[O U x.key,ψ A x.counts.length c],O U n1,ψ B x.trusts.length d] v (OD v n1 x.trusts mac) from fun v hb=>by
  have h:=Gh x.key A x.counts c i7 n1 B x.trusts d v (by have:=hsh.1;omega) ((i1.below hb (lr _)).more hb.size) hsh.2.1 ((i2.below hb (lr _)).more hb.size) hx.2.1.i64 (by unfold I64;omega)
  rw [Ox hx.2.1 hn1p.1 hn1p.2] at h
  rw [hmac];exact h)
 have hslot:∀ s,slotN x s = ⟨n1,x.trusts,if s = 1 then 0 else mac,x.cells⟩:=fun s=>by
  unfold slotN
  rw [<- hn1,Ox hx.2.1 hn1p.1 hn1p.2,hmac]
 have HSL:=hid hslot
 have CC:=hid (show ∀ (v:World),(∀ k,b <= k -> k < u.1.size -> k ≠ g -> v.1[k]? = u.1[k]?) -> Calls prog 140 #[ψ C x.cells.length e] v fun e1 w'=>e1 = τ (ψ (some ⟨v.1.size,0,none⟩) x.cells.length x.cells.length) /\ Aa w' v.1.size 118 (Af ceV x.cells).toArray /\ Below v.1.size v w' /\ w'.1.size = v.1.size + 1 from fun v hm=>by
  obtain ⟨A2,c2,B2,d2,C2,e2,g2,_,_,_,_,_,_,_,_,eq9,-,-,k3,-,-,-,-,-,-,k10,k11⟩:=hv.parts
  injection eq9 with eq9
  simp only [Array.mk.injEq,List.cons.injEq,Value.slice.injEq,Option.some.injEq,Addr.mk.injEq,true_and,and_true] at eq9
  obtain ⟨-,-,⟨rfl,rfl⟩,rfl⟩:=eq9
  have hne:g ∉ Ae (ψ C x.cells.length e):=fun hm2=>(List.pairwise_iff_getElem.1 k10) 2 3 (by simp) (by simp) (by omega) g hm2 (by simp)
  have hr9:Bv v b (ψ C x.cells.length e) x.cells:=Cm k3 (fun y hy=>hm y (Ax k3 y hy).1 (Ax k3 y hy).2 (fun e=>hne (e ▸ hy)))
  obtain ⟨A6,c6,e6,hc6,-⟩:=hr9.reads Au
  injection e6 with e6 e7 e8
  subst e6
  exact EK C x.cells e v hsh.2.2.1 hc6)
 have HV:=hid hv
 have HP:=hid hp
 have HB:=hid (And.intro hpb hbu)
 have HN:=hid hn1
 have HS:=hid hsh
 obtain ⟨-,-,hbb,hgu,A0,c0,C0,d0,A1',c1',C1',d1',hsl8,-⟩:=HV.out.slotsGet
 have S8:=hid hsl8
 have hcell:¬ 10000 <= x.count:=by omega
 clear hv hp hpb hsl8 i1 i2 i3 i5 i6 i7 hslot hsh hmac hn1
 go_enter func87,ntmps87
 go_upto_region 0 with fail
 refine Ao [false,true,false,false,false,true,false,false,false,false,true,false,false,true,true,true] (ShL [(1,fun v=>v = (.pointer (some ⟨p,0,none⟩))),(5,fun v=>v = (.pointer (some ⟨p,0,none⟩))),(10,fun v=>v = (.pointer (some ⟨p,0,none⟩))),(13,fun v=>∃ (A:Option Addr) (c:Nat),v = σ #[O U n1,ψ A x.trusts.length c,O U mac]),(14,fun v=>∃ g:Nat,v = .pointer (some ⟨g,0,none⟩))]) (fun D γ v=>EA u x.trusts n1 mac D γ v) (by kernel_rfl) (by kernel_rfl) (fun γ=>by kernel_rfl) (fun D γ γ' w ha h=>h.loc ha) (ShL.inh _ ?inh) (fun γ=>EA.start) (fun γ hγ=>?_)
 case inh=>
  intro y hy
  simp only [List.mem_cons,List.not_mem_nil,or_false] at hy
  rcases hy with rfl | rfl | rfl | rfl | rfl
  ·exact ⟨_,rfl⟩
  ·exact ⟨_,rfl⟩
  ·exact ⟨_,rfl⟩
  ·exact ⟨_,none,0,rfl⟩
  ·exact ⟨_,0,rfl⟩
 have g1:γ 1 = (.pointer (some ⟨p,0,none⟩)):=hγ 1 rfl
 have g5:γ 5 = (.pointer (some ⟨p,0,none⟩)):=hγ 5 rfl
 have g9:γ 10 = (.pointer (some ⟨p,0,none⟩)):=hγ 10 rfl
 obtain ⟨A9,c9,e13⟩:∃ (A:Option Addr) (c:Nat),γ 13 = σ #[O U n1,ψ A x.trusts.length c,O U mac]:=hγ 13 rfl
 obtain ⟨gq,e14⟩:∃ g:Nat,γ 14 = .pointer (some ⟨g,0,none⟩):=hγ 14 rfl
 have e15:γ 15 = undef:=hγ 15 rfl
 apply Exists.intro
 refine ⟨fun D=>?_,?_,?_⟩
 ·simp only [AP,cond_true,cond_false,Nat.reduceAdd,g1,g5,g9,e13,e14,e15]
  iterate 16 (first
   | go_big_quiet_skip
   | (go_big_quiet_want
      go_big_quiet_op
      first
       | go_big_quiet_on
       | (apply Exists.intro
          refine ⟨fun u hu=>?_,?_⟩
          ·first
             | with_reducible rfl
             | (have pc:=(HP.out.below hu.1 hpl).cell;go_simp;first | done | with_reducible rfl)
          go_big_quiet_on)))
  exact wpQuiet_nil rfl
 ·simp only [AY,Nat.reduceAdd]
  refine ⟨fun D v hD hd hu=>?_,fun D v hD hd hu=>?_,fun D v hD hd hu=>?_,fun D v hD hd hu=>?_,fun D v hD hd hu=>?_,fun D v hD hd hu=>?_,trivial⟩
  ·exact Bj rfl rfl ⟨rfl,hu.skip 1 (by decide) (by decide) (by decide)⟩
  ·exact Bj rfl rfl ⟨rfl,hu.skip 5 (by decide) (by decide) (by decide)⟩
  ·exact Bj rfl rfl ⟨rfl,hu.skip 10 (by decide) (by decide) (by decide)⟩
  ·exact As ((SO.out v hu.1).mono fun e w' ⟨A8,c8,he,hr,hb⟩=>⟨_,he,⟨_,_,rfl⟩,hu.call hD hb hr⟩) rfl rfl rfl rfl (by kernel_rfl)
  ·exact DJ (cs:=#[O U 0,ψ none 0 0,O U 0]) rfl (by kernel_rfl) ⟨⟨_,rfl⟩,hu.made hD⟩
  ·have d13:=hd { on:=13,ground:=Ground.data } (by simp) rfl rfl
   have d14:=hd { on:=14,ground:=Ground.data } (by simp) rfl rfl
   have d15:D 15 = false:=hD
   obtain ⟨g',q1,q2,q3,q4,q5⟩:=hu.2.2.1 d14
   rw [e14] at q1
   injection q1 with q1;injection q1 with q1;injection q1 with q1
   subst q1
   exact AI (q3 d15) rfl rfl (show _ = Value.agg #[O U n1,ψ A9 x.trusts.length c9,O U mac] from rfl) (by kernel_rfl) rfl (by simp [Value.oneCell']) (fun w' hc hg=>⟨rfl,hu.store d13 d14 e14 e13 hg hc⟩)
 intro D w1 hD hu
 have d13:=hD 13 (by simp) rfl
 have d14:=hD 14 (by simp) rfl
 have d15:=hD 15 (by simp) rfl
 obtain ⟨hb1,q2,q3,-⟩:=hu
 obtain ⟨A7,c7,q4,hrow⟩:=q2 d13
 rw [e13] at q4
 simp only [Value.agg.injEq,Array.mk.injEq,List.cons.injEq,Value.slice.injEq,true_and,and_true] at q4
 obtain ⟨rfl,rfl⟩:=q4
 obtain ⟨g',q5,hgq,-,q6,-⟩:=q3 d14
 rw [e14] at q5
 injection q5 with q5;injection q5 with q5;injection q5 with q5
 subst q5
 have hq:=q6 d15 _ e13
 clear q2 q3 q6 hD d13 d14 d15 e13 e14 e15 g1 g5 g9 hγ SO
 have ROW:=hid hrow
 have B1:=hid hb1
 have SQ:=hid hq
 have hb1s:=hb1.size
 have pp:=HP.out.below hb1 hpl
 have hlq:=hq.lt
 clear hrow hb1
 have PP:=hid pp
 rcases (show st = 0 \/ st = 1 \/ st = 2 \/ st = 3 by omega) with rfl | rfl | rfl | rfl
 ·have FN:=hid (show Aa w1 p 31 _ /\ VolO w1 b (Ah x 0).1 _ /\ BO b (some p) u w1 from ⟨PP.out,by unfold Ah;rw [if_neg (by omega),if_neg hcell,if_pos rfl];exact HV.out.below B1.out,BO.of (B1.out.mono HB.out.2)⟩)
  clear pp hq CC
  go_wp2_with fail
  go_end0
  exact ⟨rfl,_,FN.out⟩
 ·have g1:u.grownBy w1 (some p):=BV B1.out (some p)
  have h3:u.grownBy w1 (some p) /\ Aa w1 p 31 #[O U x.key,ψ A x.counts.length c,ψ B x.trusts.length d,ψ C x.cells.length e,ψ (some ⟨g,0,none⟩) 2 2,O U x.count] /\ Aa w1 gq 89 #[O U n1,ψ A9 x.trusts.length c9,O U mac] /\ u.1.size <= w1.1.size /\ Bl w1 u.1.size (ψ A9 x.trusts.length c9) x.trusts:=⟨g1,PP.out,SQ.out,hb1s,ROW.out⟩
  have H3:=hid h3
  have pc:=pp.cell
  have pf:=pp.frozen
  have qc:=hq.cell
  have qf:=hq.frozen
  clear h3 pp hq g1
  go_upto_region 8 with fail
  rcases (show n1 % 2 = 0 \/ n1 % 2 = 1 by omega) with hpar | hpar
  have z_1:=trivial;rotate_left;have z_2:=trivial;rotate_left
  all_goals
   first
    | guard_hyp z_1
      have ht1:Int.tmod n1 2 = 0:=by rw [Int.tmod_eq_emod_of_nonneg hn1p.1];exact hpar
    | have ht1:Int.tmod n1 2 = 1:=by rw [Int.tmod_eq_emod_of_nonneg hn1p.1];exact hpar
   have hs3:Aa w1 g 91 #[O U x.s0.count,ψ A0 x.s0.trusts.length c0,O U x.s0.mac,ψ C0 x.s0.cells.length d0,O U x.s1.count,ψ A1' x.s1.trusts.length c1',O U x.s1.mac,ψ C1' x.s1.cells.length d1']:=(H3.out.1.block g hgu (by intro e;injection e;have:=HB.out.1;omega)).trans S8.out
   have HS3:=hid hs3
   have hbp:g ≠ p:=by have:=HB.out.1;omega
   have hgl:g < w1.1.size:=by have:=H3.out.2.2.2.1;omega
   have hpl3:p < w1.1.size:=by have:=H3.out.2.2.2.1;omega
   have hgq2:gq ≠ g:=by omega
   first
    | guard_hyp z_1
      refine Ao [false,true,false,false,false,false,false,false,false,false,false,false,false,false,true,false,true,true,false,false,true] (ShV [(1,(.pointer (some ⟨p,0,none⟩))),(14,(.pointer (some ⟨p,0,none⟩))),(16,ψ C x.cells.length e),(17,(ψ (some ⟨w1.1.size,0,none⟩) x.cells.length x.cells.length))]) (fun D _ v=>Put1 w1 g 91 (fun b0=>bif b0 then #[O U n1,ψ A9 x.trusts.length c9,O U 0,(ψ (some ⟨w1.1.size,0,none⟩) x.cells.length x.cells.length),O U x.s1.count,ψ A1' x.s1.trusts.length c1',O U x.s1.mac,ψ C1' x.s1.cells.length d1'] else #[O U x.s0.count,ψ A0 x.s0.trusts.length c0,O U x.s0.mac,ψ C0 x.s0.cells.length d0,O U x.s1.count,ψ A1' x.s1.trusts.length c1',O U x.s1.mac,ψ C1' x.s1.cells.length d1']) 118 (Af ceV x.cells).toArray D v) (by kernel_rfl) (by kernel_rfl) (fun γ=>by kernel_rfl) (fun D γ γ' w _ h=>h) (ShV.inh _) (fun γ=>Put1.start hs3) (fun γ hγ=>?_)
    | refine Ao [false,true,false,false,false,false,false,false,false,false,false,false,false,false,true,false,true,true,false,false,true] (ShV [(1,(.pointer (some ⟨p,0,none⟩))),(14,(.pointer (some ⟨p,0,none⟩))),(16,ψ C x.cells.length e),(17,(ψ (some ⟨w1.1.size,0,none⟩) x.cells.length x.cells.length))]) (fun D _ v=>Put1 w1 g 91 (fun b0=>bif b0 then #[O U x.s0.count,ψ A0 x.s0.trusts.length c0,O U x.s0.mac,ψ C0 x.s0.cells.length d0,O U n1,ψ A9 x.trusts.length c9,O U 0,(ψ (some ⟨w1.1.size,0,none⟩) x.cells.length x.cells.length)] else #[O U x.s0.count,ψ A0 x.s0.trusts.length c0,O U x.s0.mac,ψ C0 x.s0.cells.length d0,O U x.s1.count,ψ A1' x.s1.trusts.length c1',O U x.s1.mac,ψ C1' x.s1.cells.length d1']) 118 (Af ceV x.cells).toArray D v) (by kernel_rfl) (by kernel_rfl) (fun γ=>by kernel_rfl) (fun D γ γ' w _ h=>h) (ShV.inh _) (fun γ=>Put1.start hs3) (fun γ hγ=>?_)
   clear hs3 pc pf qc qf
   have g1:γ 1 = (.pointer (some ⟨p,0,none⟩)):=hγ 1 rfl
   have g14:γ 14 = (.pointer (some ⟨p,0,none⟩)):=hγ 14 rfl
   have g16:γ 16 = ψ C x.cells.length e:=hγ 16 rfl
   have g17:γ 17 = (ψ (some ⟨w1.1.size,0,none⟩) x.cells.length x.cells.length):=hγ 17 rfl
   have g20:γ 20 = undef:=hγ 20 rfl
   first
    | guard_hyp z_1
      have PB:∀ {D:Nat -> Bool} {v:World},Put1 w1 g 91 (fun b0=>bif b0 then #[O U n1,ψ A9 x.trusts.length c9,O U 0,(ψ (some ⟨w1.1.size,0,none⟩) x.cells.length x.cells.length),O U x.s1.count,ψ A1' x.s1.trusts.length c1',O U x.s1.mac,ψ C1' x.s1.cells.length d1'] else #[O U x.s0.count,ψ A0 x.s0.trusts.length c0,O U x.s0.mac,ψ C0 x.s0.cells.length d0,O U x.s1.count,ψ A1' x.s1.trusts.length c1',O U x.s1.mac,ψ C1' x.s1.cells.length d1']) 118 (Af ceV x.cells).toArray D v -> Aa v p 31 #[O U x.key,ψ A x.counts.length c,ψ B x.trusts.length d,ψ C x.cells.length e,ψ (some ⟨g,0,none⟩) 2 2,O U x.count]:=fun h=>(h.mid.2.2.2.2 _ hpl3 (by omega)).trans H3.out.2.1
      have QB:∀ {D:Nat -> Bool} {v:World},Put1 w1 g 91 (fun b0=>bif b0 then #[O U n1,ψ A9 x.trusts.length c9,O U 0,(ψ (some ⟨w1.1.size,0,none⟩) x.cells.length x.cells.length),O U x.s1.count,ψ A1' x.s1.trusts.length c1',O U x.s1.mac,ψ C1' x.s1.cells.length d1'] else #[O U x.s0.count,ψ A0 x.s0.trusts.length c0,O U x.s0.mac,ψ C0 x.s0.cells.length d0,O U x.s1.count,ψ A1' x.s1.trusts.length c1',O U x.s1.mac,ψ C1' x.s1.cells.length d1']) 118 (Af ceV x.cells).toArray D v -> Aa v gq 89 #[O U n1,ψ A9 x.trusts.length c9,O U mac]:=fun h=>(h.mid.2.2.2.2 _ H3.out.2.2.1.lt (by omega)).trans H3.out.2.2.1
    | have PB:∀ {D:Nat -> Bool} {v:World},Put1 w1 g 91 (fun b0=>bif b0 then #[O U x.s0.count,ψ A0 x.s0.trusts.length c0,O U x.s0.mac,ψ C0 x.s0.cells.length d0,O U n1,ψ A9 x.trusts.length c9,O U 0,(ψ (some ⟨w1.1.size,0,none⟩) x.cells.length x.cells.length)] else #[O U x.s0.count,ψ A0 x.s0.trusts.length c0,O U x.s0.mac,ψ C0 x.s0.cells.length d0,O U x.s1.count,ψ A1' x.s1.trusts.length c1',O U x.s1.mac,ψ C1' x.s1.cells.length d1']) 118 (Af ceV x.cells).toArray D v -> Aa v p 31 #[O U x.key,ψ A x.counts.length c,ψ B x.trusts.length d,ψ C x.cells.length e,ψ (some ⟨g,0,none⟩) 2 2,O U x.count]:=fun h=>(h.mid.2.2.2.2 _ hpl3 (by omega)).trans H3.out.2.1
      have QB:∀ {D:Nat -> Bool} {v:World},Put1 w1 g 91 (fun b0=>bif b0 then #[O U x.s0.count,ψ A0 x.s0.trusts.length c0,O U x.s0.mac,ψ C0 x.s0.cells.length d0,O U n1,ψ A9 x.trusts.length c9,O U 0,(ψ (some ⟨w1.1.size,0,none⟩) x.cells.length x.cells.length)] else #[O U x.s0.count,ψ A0 x.s0.trusts.length c0,O U x.s0.mac,ψ C0 x.s0.cells.length d0,O U x.s1.count,ψ A1' x.s1.trusts.length c1',O U x.s1.mac,ψ C1' x.s1.cells.length d1']) 118 (Af ceV x.cells).toArray D v -> Aa v gq 89 #[O U n1,ψ A9 x.trusts.length c9,O U mac]:=fun h=>(h.mid.2.2.2.2 _ H3.out.2.2.1.lt (by omega)).trans H3.out.2.2.1
   apply Exists.intro
   refine ⟨fun D=>?_,?_,?_⟩
   ·simp only [AP,cond_true,cond_false,Nat.reduceAdd,g1,g14,g16,g17,g20]
    iterate 21 (first
     | go_big_quiet_skip
     | (go_big_quiet_want
        go_big_quiet_op
        first
         | go_big_quiet_on
         | (apply Exists.intro
            refine ⟨fun u hu=>?_,?_⟩
            ·first
               | with_reducible rfl
               | (obtain ⟨X0,Y0,X1,Y1,-⟩:=(Rd.of (L:=[(p,31,#[O U x.key,ψ A x.counts.length c,ψ B x.trusts.length d,ψ C x.cells.length e,ψ (some ⟨g,0,none⟩) 2 2,O U x.count]),(gq,89,#[O U n1,ψ A9 x.trusts.length c9,O U mac])]) (fun y hy=>by simp only [List.mem_cons,List.not_mem_nil,or_false] at hy;rcases hy with rfl | rfl;exact PB hu;exact QB hu));go_simp;first | done | with_reducible rfl)
            go_big_quiet_on)))
    exact wpQuiet_nil rfl
   ·simp only [AY,Nat.reduceAdd]
    refine ⟨fun D v hD hd hu=>?_,fun D v hD hd hu=>?_,fun D v hD hd hu=>?_,fun D v hD hd hu=>?_,fun D v hD hd hu=>?_,trivial⟩
    ·exact Bj rfl rfl ⟨rfl,hu.skip 1 (by decide) (by decide) (by decide)⟩
    ·exact Bj rfl rfl ⟨rfl,hu.skip 14 (by decide) (by decide) (by decide)⟩
    ·exact Cf (((PB hu).cell 3).trans rfl) rfl rfl underlying28 ⟨rfl,hu.load16⟩
    ·have dl:=hd { on:=16,ground:=Ground.data } (by simp) rfl rfl
     have hz:=hu.size17 hD
     exact As ((CC.out v (fun k hk1 hk2 hk3=>(hu.mid.2.2.2.2 k (Nat.lt_of_lt_of_le hk2 H3.out.1.size) (by omega)).trans (H3.out.1.block k hk2 (by intro e;injection e;have:=HB.out.1;omega)))).mono fun e w' ⟨he,hc,hb,hs⟩=>⟨_,he.trans (by rw [hz];rfl),rfl,hu.call17 hD dl hb hs hc⟩) rfl rfl rfl rfl (by kernel_rfl)
    ·have dc:=hd { on:=17,ground:=Ground.phase } (by simp) rfl rfl
     have hcur:Aa v g 91 #[O U x.s0.count,ψ A0 x.s0.trusts.length c0,O U x.s0.mac,ψ C0 x.s0.cells.length d0,O U x.s1.count,ψ A1' x.s1.trusts.length c1',O U x.s1.mac,ψ C1' x.s1.cells.length d1']:=by have h9:=hu.cur;rw [hD] at h9;exact h9
     first
      | guard_hyp z_1
        exact Dz (off:=0) hcur (by simp) rfl rfl rfl (by kernel_rfl) (by simp [Value.oneCell']) (fun w' hc hg hn=>⟨rfl,hu.store20 dc hgl hn hg (by simpa using hc)⟩)
      | exact Dz (off:=4) hcur (by simp) rfl rfl rfl (by kernel_rfl) (by simp [Value.oneCell']) (fun w' hc hg hn=>⟨rfl,hu.store20 dc hgl hn hg (by simpa using hc)⟩)
   intro D w5 hD hu
   obtain ⟨hx0,hxp,hs5,hmid⟩:=hu.done (hD 17 (by simp) rfl) (hD 20 (by simp) rfl)
   have pp5:=PB hu
   obtain ⟨u',us,ug,ub⟩:=Fy H3.out.1
   have g5:u'.grownBy w5 (some g):=⟨hmid.1.trans ub.os,hmid.2.1.trans ub.tape,hmid.2.2.1.trans ub.output,Nat.le_trans ub.size hmid.2.2.2.1,fun k hk hr=>(hmid.2.2.2.2 k (Nat.lt_of_lt_of_le hk ub.size) (by have:k ≠ g:=fun e=>hr (by rw [e]);omega)).trans (ub.block k hk)⟩
   have hold:Aa u' g 91 #[O U x.s0.count,ψ A0 x.s0.trusts.length c0,O U x.s0.mac,ψ C0 x.s0.cells.length d0,O U x.s1.count,ψ A1' x.s1.trusts.length c1',O U x.s1.mac,ψ C1' x.s1.cells.length d1']:=(ug.block g hgu (by intro e;injection e;omega)).trans S8.out
   have hr5:Bl w5 u.1.size (ψ A9 x.trusts.length c9) x.trusts:=Cm H3.out.2.2.2.2 (fun y hy=>hmid.2.2.2.2 y (Ax H3.out.2.2.2.2 y hy).2 (by have:=(Ax H3.out.2.2.2.2 y hy).1;omega))
   first
    | guard_hyp z_1
      have vv:=(HV.out.out ug HB.out.1).slotPut0 (v':=w5) (s:=slotN x 1) (A9:=A9) (c9:=c9) (C9:=some ⟨w1.1.size,0,none⟩) (d9:=x.cells.length) (N:=u.1.size) (M:=w1.1.size) (by rw [HSL.out];exact hr5) (by rw [HSL.out];exact BJ hx0 (lr _) (Ak Au) (by have:=HS.out.2.2.1;show x.cells.length <= maxLen;unfold maxLen;omega)) (by omega) (by have:=H3.out.2.2.2.1;omega) (by
       intro y hy hy2
       rw [HSL.out] at hy hy2
       have h9:=(Ax H3.out.2.2.2.2 y hy).2
       simp [Ae] at hy2
       omega) hold g5 (by rw [HSL.out];exact hxp)
      have hsv:(Ah x 1).1 = { x with s0:=slotN x 1 }:=by
       unfold Ah Ep
       rw [if_neg (by decide),if_neg hcell,if_neg (by decide),<- HN.out,if_pos hpar]
       rw [if_neg (by decide)]
    | have vv:=(HV.out.out ug HB.out.1).slotPut1 (v':=w5) (s:=slotN x 1) (A9:=A9) (c9:=c9) (C9:=some ⟨w1.1.size,0,none⟩) (d9:=x.cells.length) (N:=u.1.size) (M:=w1.1.size) (by rw [HSL.out];exact hr5) (by rw [HSL.out];exact BJ hx0 (lr _) (Ak Au) (by have:=HS.out.2.2.1;show x.cells.length <= maxLen;unfold maxLen;omega)) (by omega) (by have:=H3.out.2.2.2.1;omega) (by
        intro y hy hy2
        rw [HSL.out] at hy hy2
        have h9:=(Ax H3.out.2.2.2.2 y hy).2
        simp [Ae] at hy2
        omega) hold g5 (by rw [HSL.out];exact hxp)
      have hsv:(Ah x 1).1 = { x with s1:=slotN x 1 }:=by
       unfold Ah Ep
       rw [if_neg (by decide),if_neg hcell,if_neg (by decide),<- HN.out,if_neg (by omega)]
       rw [if_neg (by decide)]
   have FN:=hid (show Aa w5 p 31 _ /\ VolO w5 b (Ah x 1).1 _ /\ BO b (some p) u w5 from ⟨pp5,by rw [hsv];exact vv,Ny H3.out.1 hmid hbb HB.out.2⟩)
   clear hu hD hx0 hxp hs5 hmid pp5 us ug ub g5 hold hr5 vv hsv g1 g14 g16 g17 g20 hγ CC
   go_wp2_with fail
   go_end0
   exact ⟨rfl,_,FN.out⟩
 ·have g1:u.grownBy w1 (some p):=BV B1.out (some p)
  have h3:u.grownBy w1 (some p) /\ Aa w1 p 31 #[O U x.key,ψ A x.counts.length c,ψ B x.trusts.length d,ψ C x.cells.length e,ψ (some ⟨g,0,none⟩) 2 2,O U x.count] /\ Aa w1 gq 89 #[O U n1,ψ A9 x.trusts.length c9,O U mac] /\ u.1.size <= w1.1.size /\ Bl w1 u.1.size (ψ A9 x.trusts.length c9) x.trusts:=⟨g1,PP.out,SQ.out,hb1s,ROW.out⟩
  have H3:=hid h3
  have pc:=pp.cell
  have pf:=pp.frozen
  have qc:=hq.cell
  have qf:=hq.frozen
  clear h3 pp hq g1
  go_upto_region 8 with fail
  rcases (show n1 % 2 = 0 \/ n1 % 2 = 1 by omega) with hpar | hpar
  have z_3:=trivial;rotate_left;have z_4:=trivial;rotate_left
  all_goals
   first
    | guard_hyp z_3
      have ht1:Int.tmod n1 2 = 0:=by rw [Int.tmod_eq_emod_of_nonneg hn1p.1];exact hpar
    | have ht1:Int.tmod n1 2 = 1:=by rw [Int.tmod_eq_emod_of_nonneg hn1p.1];exact hpar
   have hs3:Aa w1 g 91 #[O U x.s0.count,ψ A0 x.s0.trusts.length c0,O U x.s0.mac,ψ C0 x.s0.cells.length d0,O U x.s1.count,ψ A1' x.s1.trusts.length c1',O U x.s1.mac,ψ C1' x.s1.cells.length d1']:=(H3.out.1.block g hgu (by intro e;injection e;have:=HB.out.1;omega)).trans S8.out
   have HS3:=hid hs3
   have hbp:g ≠ p:=by have:=HB.out.1;omega
   have hgl:g < w1.1.size:=by have:=H3.out.2.2.2.1;omega
   have hpl3:p < w1.1.size:=by have:=H3.out.2.2.2.1;omega
   have hgq2:gq ≠ g:=by omega
   first
    | guard_hyp z_3
      refine Ao [false,true,false,false,false,false,false,false,false,false,false,false,false,false,true,false,true,true,false,false,true] (ShV [(1,(.pointer (some ⟨p,0,none⟩))),(14,(.pointer (some ⟨p,0,none⟩))),(16,ψ C x.cells.length e),(17,(ψ (some ⟨w1.1.size,0,none⟩) x.cells.length x.cells.length))]) (fun D _ v=>Put1 w1 g 91 (fun b0=>bif b0 then #[O U n1,ψ A9 x.trusts.length c9,O U mac,(ψ (some ⟨w1.1.size,0,none⟩) x.cells.length x.cells.length),O U x.s1.count,ψ A1' x.s1.trusts.length c1',O U x.s1.mac,ψ C1' x.s1.cells.length d1'] else #[O U x.s0.count,ψ A0 x.s0.trusts.length c0,O U x.s0.mac,ψ C0 x.s0.cells.length d0,O U x.s1.count,ψ A1' x.s1.trusts.length c1',O U x.s1.mac,ψ C1' x.s1.cells.length d1']) 118 (Af ceV x.cells).toArray D v) (by kernel_rfl) (by kernel_rfl) (fun γ=>by kernel_rfl) (fun D γ γ' w _ h=>h) (ShV.inh _) (fun γ=>Put1.start hs3) (fun γ hγ=>?_)
    | refine Ao [false,true,false,false,false,false,false,false,false,false,false,false,false,false,true,false,true,true,false,false,true] (ShV [(1,(.pointer (some ⟨p,0,none⟩))),(14,(.pointer (some ⟨p,0,none⟩))),(16,ψ C x.cells.length e),(17,(ψ (some ⟨w1.1.size,0,none⟩) x.cells.length x.cells.length))]) (fun D _ v=>Put1 w1 g 91 (fun b0=>bif b0 then #[O U x.s0.count,ψ A0 x.s0.trusts.length c0,O U x.s0.mac,ψ C0 x.s0.cells.length d0,O U n1,ψ A9 x.trusts.length c9,O U mac,(ψ (some ⟨w1.1.size,0,none⟩) x.cells.length x.cells.length)] else #[O U x.s0.count,ψ A0 x.s0.trusts.length c0,O U x.s0.mac,ψ C0 x.s0.cells.length d0,O U x.s1.count,ψ A1' x.s1.trusts.length c1',O U x.s1.mac,ψ C1' x.s1.cells.length d1']) 118 (Af ceV x.cells).toArray D v) (by kernel_rfl) (by kernel_rfl) (fun γ=>by kernel_rfl) (fun D γ γ' w _ h=>h) (ShV.inh _) (fun γ=>Put1.start hs3) (fun γ hγ=>?_)
   clear hs3 pc pf qc qf
   have g1:γ 1 = (.pointer (some ⟨p,0,none⟩)):=hγ 1 rfl
   have g14:γ 14 = (.pointer (some ⟨p,0,none⟩)):=hγ 14 rfl
   have g16:γ 16 = ψ C x.cells.length e:=hγ 16 rfl
   have g17:γ 17 = (ψ (some ⟨w1.1.size,0,none⟩) x.cells.length x.cells.length):=hγ 17 rfl
   have g20:γ 20 = undef:=hγ 20 rfl
   first
    | guard_hyp z_3
      have PB:∀ {D:Nat -> Bool} {v:World},Put1 w1 g 91 (fun b0=>bif b0 then #[O U n1,ψ A9 x.trusts.length c9,O U mac,(ψ (some ⟨w1.1.size,0,none⟩) x.cells.length x.cells.length),O U x.s1.count,ψ A1' x.s1.trusts.length c1',O U x.s1.mac,ψ C1' x.s1.cells.length d1'] else #[O U x.s0.count,ψ A0 x.s0.trusts.length c0,O U x.s0.mac,ψ C0 x.s0.cells.length d0,O U x.s1.count,ψ A1' x.s1.trusts.length c1',O U x.s1.mac,ψ C1' x.s1.cells.length d1']) 118 (Af ceV x.cells).toArray D v -> Aa v p 31 #[O U x.key,ψ A x.counts.length c,ψ B x.trusts.length d,ψ C x.cells.length e,ψ (some ⟨g,0,none⟩) 2 2,O U x.count]:=fun h=>(h.mid.2.2.2.2 _ hpl3 (by omega)).trans H3.out.2.1
      have QB:∀ {D:Nat -> Bool} {v:World},Put1 w1 g 91 (fun b0=>bif b0 then #[O U n1,ψ A9 x.trusts.length c9,O U mac,(ψ (some ⟨w1.1.size,0,none⟩) x.cells.length x.cells.length),O U x.s1.count,ψ A1' x.s1.trusts.length c1',O U x.s1.mac,ψ C1' x.s1.cells.length d1'] else #[O U x.s0.count,ψ A0 x.s0.trusts.length c0,O U x.s0.mac,ψ C0 x.s0.cells.length d0,O U x.s1.count,ψ A1' x.s1.trusts.length c1',O U x.s1.mac,ψ C1' x.s1.cells.length d1']) 118 (Af ceV x.cells).toArray D v -> Aa v gq 89 #[O U n1,ψ A9 x.trusts.length c9,O U mac]:=fun h=>(h.mid.2.2.2.2 _ H3.out.2.2.1.lt (by omega)).trans H3.out.2.2.1
    | have PB:∀ {D:Nat -> Bool} {v:World},Put1 w1 g 91 (fun b0=>bif b0 then #[O U x.s0.count,ψ A0 x.s0.trusts.length c0,O U x.s0.mac,ψ C0 x.s0.cells.length d0,O U n1,ψ A9 x.trusts.length c9,O U mac,(ψ (some ⟨w1.1.size,0,none⟩) x.cells.length x.cells.length)] else #[O U x.s0.count,ψ A0 x.s0.trusts.length c0,O U x.s0.mac,ψ C0 x.s0.cells.length d0,O U x.s1.count,ψ A1' x.s1.trusts.length c1',O U x.s1.mac,ψ C1' x.s1.cells.length d1']) 118 (Af ceV x.cells).toArray D v -> Aa v p 31 #[O U x.key,ψ A x.counts.length c,ψ B x.trusts.length d,ψ C x.cells.length e,ψ (some ⟨g,0,none⟩) 2 2,O U x.count]:=fun h=>(h.mid.2.2.2.2 _ hpl3 (by omega)).trans H3.out.2.1
      have QB:∀ {D:Nat -> Bool} {v:World},Put1 w1 g 91 (fun b0=>bif b0 then #[O U x.s0.count,ψ A0 x.s0.trusts.length c0,O U x.s0.mac,ψ C0 x.s0.cells.length d0,O U n1,ψ A9 x.trusts.length c9,O U mac,(ψ (some ⟨w1.1.size,0,none⟩) x.cells.length x.cells.length)] else #[O U x.s0.count,ψ A0 x.s0.trusts.length c0,O U x.s0.mac,ψ C0 x.s0.cells.length d0,O U x.s1.count,ψ A1' x.s1.trusts.length c1',O U x.s1.mac,ψ C1' x.s1.cells.length d1']) 118 (Af ceV x.cells).toArray D v -> Aa v gq 89 #[O U n1,ψ A9 x.trusts.length c9,O U mac]:=fun h=>(h.mid.2.2.2.2 _ H3.out.2.2.1.lt (by omega)).trans H3.out.2.2.1
   apply Exists.intro
   refine ⟨fun D=>?_,?_,?_⟩
   ·simp only [AP,cond_true,cond_false,Nat.reduceAdd,g1,g14,g16,g17,g20]
    iterate 21 (first
     | go_big_quiet_skip
     | (go_big_quiet_want
        go_big_quiet_op
        first
         | go_big_quiet_on
         | (apply Exists.intro
            refine ⟨fun u hu=>?_,?_⟩
            ·first
               | with_reducible rfl
               | (obtain ⟨X0,Y0,X1,Y1,-⟩:=(Rd.of (L:=[(p,31,#[O U x.key,ψ A x.counts.length c,ψ B x.trusts.length d,ψ C x.cells.length e,ψ (some ⟨g,0,none⟩) 2 2,O U x.count]),(gq,89,#[O U n1,ψ A9 x.trusts.length c9,O U mac])]) (fun y hy=>by simp only [List.mem_cons,List.not_mem_nil,or_false] at hy;rcases hy with rfl | rfl;exact PB hu;exact QB hu));go_simp;first | done | with_reducible rfl)
            go_big_quiet_on)))
    exact wpQuiet_nil rfl
   ·simp only [AY,Nat.reduceAdd]
    refine ⟨fun D v hD hd hu=>?_,fun D v hD hd hu=>?_,fun D v hD hd hu=>?_,fun D v hD hd hu=>?_,fun D v hD hd hu=>?_,trivial⟩
    ·exact Bj rfl rfl ⟨rfl,hu.skip 1 (by decide) (by decide) (by decide)⟩
    ·exact Bj rfl rfl ⟨rfl,hu.skip 14 (by decide) (by decide) (by decide)⟩
    ·exact Cf (((PB hu).cell 3).trans rfl) rfl rfl underlying28 ⟨rfl,hu.load16⟩
    ·have dl:=hd { on:=16,ground:=Ground.data } (by simp) rfl rfl
     have hz:=hu.size17 hD
     exact As ((CC.out v (fun k hk1 hk2 hk3=>(hu.mid.2.2.2.2 k (Nat.lt_of_lt_of_le hk2 H3.out.1.size) (by omega)).trans (H3.out.1.block k hk2 (by intro e;injection e;have:=HB.out.1;omega)))).mono fun e w' ⟨he,hc,hb,hs⟩=>⟨_,he.trans (by rw [hz];rfl),rfl,hu.call17 hD dl hb hs hc⟩) rfl rfl rfl rfl (by kernel_rfl)
    ·have dc:=hd { on:=17,ground:=Ground.phase } (by simp) rfl rfl
     have hcur:Aa v g 91 #[O U x.s0.count,ψ A0 x.s0.trusts.length c0,O U x.s0.mac,ψ C0 x.s0.cells.length d0,O U x.s1.count,ψ A1' x.s1.trusts.length c1',O U x.s1.mac,ψ C1' x.s1.cells.length d1']:=by have h9:=hu.cur;rw [hD] at h9;exact h9
     first
      | guard_hyp z_3
        exact Dz (off:=0) hcur (by simp) rfl rfl rfl (by kernel_rfl) (by simp [Value.oneCell']) (fun w' hc hg hn=>⟨rfl,hu.store20 dc hgl hn hg (by simpa using hc)⟩)
      | exact Dz (off:=4) hcur (by simp) rfl rfl rfl (by kernel_rfl) (by simp [Value.oneCell']) (fun w' hc hg hn=>⟨rfl,hu.store20 dc hgl hn hg (by simpa using hc)⟩)
   intro D w5 hD hu
   obtain ⟨hx0,hxp,hs5,hmid⟩:=hu.done (hD 17 (by simp) rfl) (hD 20 (by simp) rfl)
   have pp5:=PB hu
   obtain ⟨u',us,ug,ub⟩:=Fy H3.out.1
   have g5:u'.grownBy w5 (some g):=⟨hmid.1.trans ub.os,hmid.2.1.trans ub.tape,hmid.2.2.1.trans ub.output,Nat.le_trans ub.size hmid.2.2.2.1,fun k hk hr=>(hmid.2.2.2.2 k (Nat.lt_of_lt_of_le hk ub.size) (by have:k ≠ g:=fun e=>hr (by rw [e]);omega)).trans (ub.block k hk)⟩
   have hold:Aa u' g 91 #[O U x.s0.count,ψ A0 x.s0.trusts.length c0,O U x.s0.mac,ψ C0 x.s0.cells.length d0,O U x.s1.count,ψ A1' x.s1.trusts.length c1',O U x.s1.mac,ψ C1' x.s1.cells.length d1']:=(ug.block g hgu (by intro e;injection e;omega)).trans S8.out
   have hr5:Bl w5 u.1.size (ψ A9 x.trusts.length c9) x.trusts:=Cm H3.out.2.2.2.2 (fun y hy=>hmid.2.2.2.2 y (Ax H3.out.2.2.2.2 y hy).2 (by have:=(Ax H3.out.2.2.2.2 y hy).1;omega))
   first
    | guard_hyp z_3
      have vv:=(HV.out.out ug HB.out.1).slotPut0 (v':=w5) (s:=slotN x 2) (A9:=A9) (c9:=c9) (C9:=some ⟨w1.1.size,0,none⟩) (d9:=x.cells.length) (N:=u.1.size) (M:=w1.1.size) (by rw [HSL.out];exact hr5) (by rw [HSL.out];exact BJ hx0 (lr _) (Ak Au) (by have:=HS.out.2.2.1;show x.cells.length <= maxLen;unfold maxLen;omega)) (by omega) (by have:=H3.out.2.2.2.1;omega) (by
       intro y hy hy2
       rw [HSL.out] at hy hy2
       have h9:=(Ax H3.out.2.2.2.2 y hy).2
       simp [Ae] at hy2
       omega) hold g5 (by rw [HSL.out];exact hxp)
      have hsv:(Ah x 2).1 = { x with s0:=slotN x 2 }:=by
       unfold Ah Ep
       rw [if_neg (by decide),if_neg hcell,if_neg (by decide),<- HN.out,if_pos hpar]
       rw [if_neg (by decide)]
    | have vv:=(HV.out.out ug HB.out.1).slotPut1 (v':=w5) (s:=slotN x 2) (A9:=A9) (c9:=c9) (C9:=some ⟨w1.1.size,0,none⟩) (d9:=x.cells.length) (N:=u.1.size) (M:=w1.1.size) (by rw [HSL.out];exact hr5) (by rw [HSL.out];exact BJ hx0 (lr _) (Ak Au) (by have:=HS.out.2.2.1;show x.cells.length <= maxLen;unfold maxLen;omega)) (by omega) (by have:=H3.out.2.2.2.1;omega) (by
        intro y hy hy2
        rw [HSL.out] at hy hy2
        have h9:=(Ax H3.out.2.2.2.2 y hy).2
        simp [Ae] at hy2
        omega) hold g5 (by rw [HSL.out];exact hxp)
      have hsv:(Ah x 2).1 = { x with s1:=slotN x 2 }:=by
       unfold Ah Ep
       rw [if_neg (by decide),if_neg hcell,if_neg (by decide),<- HN.out,if_neg (by omega)]
       rw [if_neg (by decide)]
   have FN:=hid (show Aa w5 p 31 _ /\ VolO w5 b (Ah x 2).1 _ /\ BO b (some p) u w5 from ⟨pp5,by rw [hsv];exact vv,Ny H3.out.1 hmid hbb HB.out.2⟩)
   clear hu hD hx0 hxp hs5 hmid pp5 us ug ub g5 hold hr5 vv hsv g1 g14 g16 g17 g20 hγ CC
   go_wp2_with fail
   go_end0
   exact ⟨rfl,_,FN.out⟩
 ·have g1:u.grownBy w1 (some p):=BV B1.out (some p)
  have pc:=pp.cell
  have pf:=pp.frozen
  have qc:=hq.cell
  have qf:=hq.frozen
  go_upto_region 7 with fail
  have gs:=Ai (Aj w1 (some p)) 5 (O U n1)
  have h3:u.grownBy (w1.setCell ⟨p,5,none⟩ (O U n1)) (some p) /\ Aa (w1.setCell ⟨p,5,none⟩ (O U n1)) p 31 #[O U x.key,ψ A x.counts.length c,ψ B x.trusts.length d,ψ C x.cells.length e,ψ (some ⟨g,0,none⟩) 2 2,O U n1] /\ Aa (w1.setCell ⟨p,5,none⟩ (O U n1)) gq 89 #[O U n1,ψ A9 x.trusts.length c9,O U mac] /\ u.1.size <= (w1.setCell ⟨p,5,none⟩ (O U n1)).1.size /\ Bl (w1.setCell ⟨p,5,none⟩ (O U n1)) u.1.size (ψ A9 x.trusts.length c9) x.trusts:=⟨Ar g1 gs,PP.out.set_ 5 (O U n1),SQ.out.grown gs (by intro e;injection e;omega),Nat.le_trans hb1s gs.size,AK ROW.out gs (fun hm=>by have:=(Ax ROW.out _ hm).1;omega)⟩
  clear pc pf qc qf pp hq gs g1 SQ ROW PP B1 hb1s hlq
  generalize World.setCell w1 _ _ = w3 at h3 |-
  have H3:=hid h3
  clear h3
  have pc:=H3.out.2.1.cell
  have pf:=H3.out.2.1.frozen
  have qc:=H3.out.2.2.1.cell
  have qf:=H3.out.2.2.1.frozen
  go_upto_region 8 with fail
  rcases (show n1 % 2 = 0 \/ n1 % 2 = 1 by omega) with hpar | hpar
  have z_5:=trivial;rotate_left;have z_6:=trivial;rotate_left
  all_goals
   first
    | guard_hyp z_5
      have ht1:Int.tmod n1 2 = 0:=by rw [Int.tmod_eq_emod_of_nonneg hn1p.1];exact hpar
    | have ht1:Int.tmod n1 2 = 1:=by rw [Int.tmod_eq_emod_of_nonneg hn1p.1];exact hpar
   have hs3:Aa w3 g 91 #[O U x.s0.count,ψ A0 x.s0.trusts.length c0,O U x.s0.mac,ψ C0 x.s0.cells.length d0,O U x.s1.count,ψ A1' x.s1.trusts.length c1',O U x.s1.mac,ψ C1' x.s1.cells.length d1']:=(H3.out.1.block g hgu (by intro e;injection e;have:=HB.out.1;omega)).trans S8.out
   have HS3:=hid hs3
   have hbp:g ≠ p:=by have:=HB.out.1;omega
   have hgl:g < w3.1.size:=by have:=H3.out.2.2.2.1;omega
   have hpl3:p < w3.1.size:=by have:=H3.out.2.2.2.1;omega
   have hgq2:gq ≠ g:=by omega
   first
    | guard_hyp z_5
      refine Ao [false,true,false,false,false,false,false,false,false,false,false,false,false,false,true,false,true,true,false,false,true] (ShV [(1,(.pointer (some ⟨p,0,none⟩))),(14,(.pointer (some ⟨p,0,none⟩))),(16,ψ C x.cells.length e),(17,(ψ (some ⟨w3.1.size,0,none⟩) x.cells.length x.cells.length))]) (fun D _ v=>Put1 w3 g 91 (fun b0=>bif b0 then #[O U n1,ψ A9 x.trusts.length c9,O U mac,(ψ (some ⟨w3.1.size,0,none⟩) x.cells.length x.cells.length),O U x.s1.count,ψ A1' x.s1.trusts.length c1',O U x.s1.mac,ψ C1' x.s1.cells.length d1'] else #[O U x.s0.count,ψ A0 x.s0.trusts.length c0,O U x.s0.mac,ψ C0 x.s0.cells.length d0,O U x.s1.count,ψ A1' x.s1.trusts.length c1',O U x.s1.mac,ψ C1' x.s1.cells.length d1']) 118 (Af ceV x.cells).toArray D v) (by kernel_rfl) (by kernel_rfl) (fun γ=>by kernel_rfl) (fun D γ γ' w _ h=>h) (ShV.inh _) (fun γ=>Put1.start hs3) (fun γ hγ=>?_)
    | refine Ao [false,true,false,false,false,false,false,false,false,false,false,false,false,false,true,false,true,true,false,false,true] (ShV [(1,(.pointer (some ⟨p,0,none⟩))),(14,(.pointer (some ⟨p,0,none⟩))),(16,ψ C x.cells.length e),(17,(ψ (some ⟨w3.1.size,0,none⟩) x.cells.length x.cells.length))]) (fun D _ v=>Put1 w3 g 91 (fun b0=>bif b0 then #[O U x.s0.count,ψ A0 x.s0.trusts.length c0,O U x.s0.mac,ψ C0 x.s0.cells.length d0,O U n1,ψ A9 x.trusts.length c9,O U mac,(ψ (some ⟨w3.1.size,0,none⟩) x.cells.length x.cells.length)] else #[O U x.s0.count,ψ A0 x.s0.trusts.length c0,O U x.s0.mac,ψ C0 x.s0.cells.length d0,O U x.s1.count,ψ A1' x.s1.trusts.length c1',O U x.s1.mac,ψ C1' x.s1.cells.length d1']) 118 (Af ceV x.cells).toArray D v) (by kernel_rfl) (by kernel_rfl) (fun γ=>by kernel_rfl) (fun D γ γ' w _ h=>h) (ShV.inh _) (fun γ=>Put1.start hs3) (fun γ hγ=>?_)
   clear hs3 pc pf qc qf
   have g1:γ 1 = (.pointer (some ⟨p,0,none⟩)):=hγ 1 rfl
   have g14:γ 14 = (.pointer (some ⟨p,0,none⟩)):=hγ 14 rfl
   have g16:γ 16 = ψ C x.cells.length e:=hγ 16 rfl
   have g17:γ 17 = (ψ (some ⟨w3.1.size,0,none⟩) x.cells.length x.cells.length):=hγ 17 rfl
   have g20:γ 20 = undef:=hγ 20 rfl
   first
    | guard_hyp z_5
      have PB:∀ {D:Nat -> Bool} {v:World},Put1 w3 g 91 (fun b0=>bif b0 then #[O U n1,ψ A9 x.trusts.length c9,O U mac,(ψ (some ⟨w3.1.size,0,none⟩) x.cells.length x.cells.length),O U x.s1.count,ψ A1' x.s1.trusts.length c1',O U x.s1.mac,ψ C1' x.s1.cells.length d1'] else #[O U x.s0.count,ψ A0 x.s0.trusts.length c0,O U x.s0.mac,ψ C0 x.s0.cells.length d0,O U x.s1.count,ψ A1' x.s1.trusts.length c1',O U x.s1.mac,ψ C1' x.s1.cells.length d1']) 118 (Af ceV x.cells).toArray D v -> Aa v p 31 #[O U x.key,ψ A x.counts.length c,ψ B x.trusts.length d,ψ C x.cells.length e,ψ (some ⟨g,0,none⟩) 2 2,O U n1]:=fun h=>(h.mid.2.2.2.2 _ hpl3 (by omega)).trans H3.out.2.1
      have QB:∀ {D:Nat -> Bool} {v:World},Put1 w3 g 91 (fun b0=>bif b0 then #[O U n1,ψ A9 x.trusts.length c9,O U mac,(ψ (some ⟨w3.1.size,0,none⟩) x.cells.length x.cells.length),O U x.s1.count,ψ A1' x.s1.trusts.length c1',O U x.s1.mac,ψ C1' x.s1.cells.length d1'] else #[O U x.s0.count,ψ A0 x.s0.trusts.length c0,O U x.s0.mac,ψ C0 x.s0.cells.length d0,O U x.s1.count,ψ A1' x.s1.trusts.length c1',O U x.s1.mac,ψ C1' x.s1.cells.length d1']) 118 (Af ceV x.cells).toArray D v -> Aa v gq 89 #[O U n1,ψ A9 x.trusts.length c9,O U mac]:=fun h=>(h.mid.2.2.2.2 _ H3.out.2.2.1.lt (by omega)).trans H3.out.2.2.1
    | have PB:∀ {D:Nat -> Bool} {v:World},Put1 w3 g 91 (fun b0=>bif b0 then #[O U x.s0.count,ψ A0 x.s0.trusts.length c0,O U x.s0.mac,ψ C0 x.s0.cells.length d0,O U n1,ψ A9 x.trusts.length c9,O U mac,(ψ (some ⟨w3.1.size,0,none⟩) x.cells.length x.cells.length)] else #[O U x.s0.count,ψ A0 x.s0.trusts.length c0,O U x.s0.mac,ψ C0 x.s0.cells.length d0,O U x.s1.count,ψ A1' x.s1.trusts.length c1',O U x.s1.mac,ψ C1' x.s1.cells.length d1']) 118 (Af ceV x.cells).toArray D v -> Aa v p 31 #[O U x.key,ψ A x.counts.length c,ψ B x.trusts.length d,ψ C x.cells.length e,ψ (some ⟨g,0,none⟩) 2 2,O U n1]:=fun h=>(h.mid.2.2.2.2 _ hpl3 (by omega)).trans H3.out.2.1
      have QB:∀ {D:Nat -> Bool} {v:World},Put1 w3 g 91 (fun b0=>bif b0 then #[O U x.s0.count,ψ A0 x.s0.trusts.length c0,O U x.s0.mac,ψ C0 x.s0.cells.length d0,O U n1,ψ A9 x.trusts.length c9,O U mac,(ψ (some ⟨w3.1.size,0,none⟩) x.cells.length x.cells.length)] else #[O U x.s0.count,ψ A0 x.s0.trusts.length c0,O U x.s0.mac,ψ C0 x.s0.cells.length d0,O U x.s1.count,ψ A1' x.s1.trusts.length c1',O U x.s1.mac,ψ C1' x.s1.cells.length d1']) 118 (Af ceV x.cells).toArray D v -> Aa v gq 89 #[O U n1,ψ A9 x.trusts.length c9,O U mac]:=fun h=>(h.mid.2.2.2.2 _ H3.out.2.2.1.lt (by omega)).trans H3.out.2.2.1
   apply Exists.intro
   refine ⟨fun D=>?_,?_,?_⟩
   ·simp only [AP,cond_true,cond_false,Nat.reduceAdd,g1,g14,g16,g17,g20]
    iterate 21 (first
     | go_big_quiet_skip
     | (go_big_quiet_want
        go_big_quiet_op
        first
         | go_big_quiet_on
         | (apply Exists.intro
            refine ⟨fun u hu=>?_,?_⟩
            ·first
               | with_reducible rfl
               | (obtain ⟨X0,Y0,X1,Y1,-⟩:=(Rd.of (L:=[(p,31,#[O U x.key,ψ A x.counts.length c,ψ B x.trusts.length d,ψ C x.cells.length e,ψ (some ⟨g,0,none⟩) 2 2,O U n1]),(gq,89,#[O U n1,ψ A9 x.trusts.length c9,O U mac])]) (fun y hy=>by simp only [List.mem_cons,List.not_mem_nil,or_false] at hy;rcases hy with rfl | rfl;exact PB hu;exact QB hu));go_simp;first | done | with_reducible rfl)
            go_big_quiet_on)))
    exact wpQuiet_nil rfl
   ·simp only [AY,Nat.reduceAdd]
    refine ⟨fun D v hD hd hu=>?_,fun D v hD hd hu=>?_,fun D v hD hd hu=>?_,fun D v hD hd hu=>?_,fun D v hD hd hu=>?_,trivial⟩
    ·exact Bj rfl rfl ⟨rfl,hu.skip 1 (by decide) (by decide) (by decide)⟩
    ·exact Bj rfl rfl ⟨rfl,hu.skip 14 (by decide) (by decide) (by decide)⟩
    ·exact Cf (((PB hu).cell 3).trans rfl) rfl rfl underlying28 ⟨rfl,hu.load16⟩
    ·have dl:=hd { on:=16,ground:=Ground.data } (by simp) rfl rfl
     have hz:=hu.size17 hD
     exact As ((CC.out v (fun k hk1 hk2 hk3=>(hu.mid.2.2.2.2 k (Nat.lt_of_lt_of_le hk2 H3.out.1.size) (by omega)).trans (H3.out.1.block k hk2 (by intro e;injection e;have:=HB.out.1;omega)))).mono fun e w' ⟨he,hc,hb,hs⟩=>⟨_,he.trans (by rw [hz];rfl),rfl,hu.call17 hD dl hb hs hc⟩) rfl rfl rfl rfl (by kernel_rfl)
    ·have dc:=hd { on:=17,ground:=Ground.phase } (by simp) rfl rfl
     have hcur:Aa v g 91 #[O U x.s0.count,ψ A0 x.s0.trusts.length c0,O U x.s0.mac,ψ C0 x.s0.cells.length d0,O U x.s1.count,ψ A1' x.s1.trusts.length c1',O U x.s1.mac,ψ C1' x.s1.cells.length d1']:=by have h9:=hu.cur;rw [hD] at h9;exact h9
     first
      | guard_hyp z_5
        exact Dz (off:=0) hcur (by simp) rfl rfl rfl (by kernel_rfl) (by simp [Value.oneCell']) (fun w' hc hg hn=>⟨rfl,hu.store20 dc hgl hn hg (by simpa using hc)⟩)
      | exact Dz (off:=4) hcur (by simp) rfl rfl rfl (by kernel_rfl) (by simp [Value.oneCell']) (fun w' hc hg hn=>⟨rfl,hu.store20 dc hgl hn hg (by simpa using hc)⟩)
   intro D w5 hD hu
   obtain ⟨hx0,hxp,hs5,hmid⟩:=hu.done (hD 17 (by simp) rfl) (hD 20 (by simp) rfl)
   have pp5:=PB hu
   obtain ⟨u',us,ug,ub⟩:=Fy H3.out.1
   have g5:u'.grownBy w5 (some g):=⟨hmid.1.trans ub.os,hmid.2.1.trans ub.tape,hmid.2.2.1.trans ub.output,Nat.le_trans ub.size hmid.2.2.2.1,fun k hk hr=>(hmid.2.2.2.2 k (Nat.lt_of_lt_of_le hk ub.size) (by have:k ≠ g:=fun e=>hr (by rw [e]);omega)).trans (ub.block k hk)⟩
   have hold:Aa u' g 91 #[O U x.s0.count,ψ A0 x.s0.trusts.length c0,O U x.s0.mac,ψ C0 x.s0.cells.length d0,O U x.s1.count,ψ A1' x.s1.trusts.length c1',O U x.s1.mac,ψ C1' x.s1.cells.length d1']:=(ug.block g hgu (by intro e;injection e;omega)).trans S8.out
   have hr5:Bl w5 u.1.size (ψ A9 x.trusts.length c9) x.trusts:=Cm H3.out.2.2.2.2 (fun y hy=>hmid.2.2.2.2 y (Ax H3.out.2.2.2.2 y hy).2 (by have:=(Ax H3.out.2.2.2.2 y hy).1;omega))
   first
    | guard_hyp z_5
      have vv:=(HV.out.out ug HB.out.1).slotPut0 (v':=w5) (s:=slotN x 3) (A9:=A9) (c9:=c9) (C9:=some ⟨w3.1.size,0,none⟩) (d9:=x.cells.length) (N:=u.1.size) (M:=w3.1.size) (by rw [HSL.out];exact hr5) (by rw [HSL.out];exact BJ hx0 (lr _) (Ak Au) (by have:=HS.out.2.2.1;show x.cells.length <= maxLen;unfold maxLen;omega)) (by omega) (by have:=H3.out.2.2.2.1;omega) (by
       intro y hy hy2
       rw [HSL.out] at hy hy2
       have h9:=(Ax H3.out.2.2.2.2 y hy).2
       simp [Ae] at hy2
       omega) hold g5 (by rw [HSL.out];exact hxp)
      have hsv:(Ah x 3).1 = { ({ x with s0:=slotN x 3 }:VolN) with count:=n1 }:=by
       unfold Ah Ep
       rw [if_neg (by decide),if_neg hcell,if_neg (by decide),<- HN.out,if_pos hpar]
       rw [if_pos rfl]
    | have vv:=(HV.out.out ug HB.out.1).slotPut1 (v':=w5) (s:=slotN x 3) (A9:=A9) (c9:=c9) (C9:=some ⟨w3.1.size,0,none⟩) (d9:=x.cells.length) (N:=u.1.size) (M:=w3.1.size) (by rw [HSL.out];exact hr5) (by rw [HSL.out];exact BJ hx0 (lr _) (Ak Au) (by have:=HS.out.2.2.1;show x.cells.length <= maxLen;unfold maxLen;omega)) (by omega) (by have:=H3.out.2.2.2.1;omega) (by
        intro y hy hy2
        rw [HSL.out] at hy hy2
        have h9:=(Ax H3.out.2.2.2.2 y hy).2
        simp [Ae] at hy2
        omega) hold g5 (by rw [HSL.out];exact hxp)
      have hsv:(Ah x 3).1 = { ({ x with s1:=slotN x 3 }:VolN) with count:=n1 }:=by
       unfold Ah Ep
       rw [if_neg (by decide),if_neg hcell,if_neg (by decide),<- HN.out,if_neg (by omega)]
       rw [if_pos rfl]
   have FN:=hid (show Aa w5 p 31 _ /\ VolO w5 b (Ah x 3).1 _ /\ BO b (some p) u w5 from ⟨pp5,by rw [hsv];exact VolO.countPut n1 vv,Ny H3.out.1 hmid hbb HB.out.2⟩)
   clear hu hD hx0 hxp hs5 hmid pp5 us ug ub g5 hold hr5 vv hsv g1 g14 g16 g17 g20 hγ CC
   go_wp2_with fail
   go_end0
   exact ⟨rfl,_,FN.out⟩
theorem Lh (a0:Addr) (x:VolN) (cs:Array Value) (b p vb:Nat) (a:Int) (u:World) (he:Bad1 u a0) (hx:x.Inv) (hv:VolO u b x (σ cs)) (hp:Aa u p 31 cs) (hpb:p < b) (hbu:b <= u.1.size) (hcv:Aa u vb 2 #[O U a]):
    Calls prog 85 #[.pointer (some ⟨p,0,none⟩),.pointer (some ⟨vb,0,none⟩)] u (KT a0 b p (Ah x a) u):=by
 obtain ⟨A,c,B,d,C,e,g,rfl⟩:=hv.litsP
 have cc:=hcv.cell
 have pc:=hp.cell
 have IS:=hid (Mo a u)
 have HV:=hid hv
 have HP:=hid hp
 have DY:=hid (Ie u)
 have DN:=hid (Ij a0 u he)
 have hcu:=hx.2.2.2.1.2
 by_cases hst:0 <= a /\ a <= 3
 ·rw [decide_eq_true hst] at IS
  by_cases hc:x.count < 10000
  ·have SC:=hid (Pe x A B C c d e g b p a u hx hc hst.1 hst.2 hv hp hpb hbu)
   have he2:(Ah x a).2 = 0:=by
    unfold Ah
    rw [if_neg (by omega),if_neg (by omega)]
    split <;> rfl
   unfold KT
   rw [he2]
   generalize (Ah x a).1 = y at SC |-
   have hc2:¬ x.count = 10000:=by omega
   clear he hx hv hp hcv hst
   go_enter func85,ntmps85
   go_wp2_with fail
   refine IS.out.mono ?_;rintro e1 w1 ⟨rfl,rfl⟩
   go_wp2_with fail
   refine DY.out.mono ?_;rintro e1 w1 ⟨rfl,rfl⟩
   go_wp2_with fail
   refine SC.out.mono ?_;rintro e1 w2 ⟨rfl,cs2,f1,f2,f3⟩
   have FN:=hid (And.intro f1 (And.intro f2 f3))
   clear f1 f2 f3 SC cc pc
   go_wp2_with fail
   go_ret
   exact ⟨.inl rfl,_,FN.out.1,FN.out.2.1,FN.out.2.2⟩
  ·have hc2:x.count = 10000:=by omega
   have he2:Ah x a = (x,3):=by
    unfold Ah
    rw [if_neg (by omega),if_pos (by omega)]
   rw [he2]
   have FN:=hid (show Aa u p 31 _ /\ VolO u b x _ /\ BO b (some p) u u from ⟨hp,hv,BO.of (Below.refl _ _)⟩)
   clear he hx hv hp hcv hst hcu
   go_enter func85,ntmps85
   go_wp2_with fail
   refine IS.out.mono ?_;rintro e1 w1 ⟨rfl,rfl⟩
   go_wp2_with fail
   refine DY.out.mono ?_;rintro e1 w1 ⟨rfl,rfl⟩
   go_wp2_with fail
   go_ret
   exact ⟨.inl rfl,_,FN.out.1,FN.out.2.1,FN.out.2.2⟩
 ·rw [decide_eq_false hst] at IS
  have he2:Ah x a = (x,1):=by
   unfold Ah
   rw [if_pos hst]
  rw [he2]
  have FN:=hid (show Aa u p 31 _ /\ VolO u b x _ /\ BO b (some p) u u from ⟨hp,hv,BO.of (Below.refl _ _)⟩)
  clear he hx hv hp hcv hst hcu
  go_enter func85,ntmps85
  go_wp2_with fail
  refine IS.out.mono ?_;rintro e1 w1 ⟨rfl,rfl⟩
  go_wp2_with fail
  refine DN.out.mono ?_;rintro e1 w1 ⟨rfl,rfl⟩
  go_wp2_with fail
  exact ⟨rfl,.inr ⟨rfl,rfl⟩,_,FN.out.1,FN.out.2.1,FN.out.2.2⟩
theorem Dv:(∀ (a0:Addr) (x:VolG) (v:Value) (a:Int) (w:World) (hx:x.Short) (hi:x.Int64) (hr:RdG w w.1.size x v) (he:Bad1 w a0),Calls prog 27 #[v,O U a] w (Ans2 w (Do x a))) /\
 (∀ (a0:Addr) (x:VolG) (v:Value) (a:Int) (w:World) (hx:x.Short) (hi:x.Int64) (hr:RdG w w.1.size x v) (he:Bad1 w a0),Calls prog 33 #[v,O U a] w (Ans2 w (CN x a))):=by
 refine ⟨fun a0 x v a w hx hi hr he=>(fun (z_1:True)=>?_) trivial,fun a0 x v a w hx hi hr he=>(fun (z_2:True)=>?_) trivial⟩
 all_goals
  obtain ⟨A,c,B,d,C,e,E,sc,rfl,i1,i2,i3,i4,i5,i6⟩:=hr
  have hmf:∀ (fn:Fn) (first cap:Array Value) (w:World),(Instr.makeFunc fn first cap).run prog w = .ok (.func fn first cap) w:=fun _ _ _ _=>rfl
  have K0:=hid (show Kept w [(w.1.size + 1 + 1,31,#[O U 0,ψ none 0 0,ψ none 0 0,ψ none 0 0,ψ none 0 0,O U 0]),(w.1.size + 1,2,#[O U a]),(w.1.size,31,#[O U x.key,ψ A x.counts.length c,ψ B x.trusts.length d,ψ C x.cells.length e,ψ E x.slots.length sc,O U x.count])] _ from ((((Kept.refl w).put1 _ _ #[O U x.key,ψ A x.counts.length c,ψ B x.trusts.length d,ψ C x.cells.length e,ψ E x.slots.length sc,O U x.count] rfl).put1 _ _ #[O U a] (by simp)).put1 _ _ #[O U 0,ψ none 0 0,ψ none 0 0,ψ none 0 0,ψ none 0 0,O U 0] (by simp)))
  have HR:=hid (show RdG w w.1.size x (σ #[O U x.key,ψ A x.counts.length c,ψ B x.trusts.length d,ψ C x.cells.length e,ψ E x.slots.length sc,O U x.count]) from ⟨A,c,B,d,C,e,E,sc,rfl,i1,i2,i3,i4,i5,i6⟩)
  first
   | guard_hyp z_1
     have WC:∀ (u:World),Kept w [(w.1.size + 1 + 1,31,#[O U 0,ψ none 0 0,ψ none 0 0,ψ none 0 0,ψ none 0 0,O U 0]),(w.1.size + 1,2,#[O U a]),(w.1.size,31,#[O U x.key,ψ A x.counts.length c,ψ B x.trusts.length d,ψ C x.cells.length e,ψ E x.slots.length sc,O U x.count])] u -> Calls prog 50 #[σ #[O U x.key,ψ A x.counts.length c,ψ B x.trusts.length d,ψ C x.cells.length e,ψ E x.slots.length sc,O U x.count],.func (.func 85) #[] #[.pointer (some ⟨w.1.size + 1,0,none⟩)]] u (GW u none (((Do x a).1,(0:Int),(Do x a).2))):=fun u hk=>by
      have hE:=he.below hk.1
      by_cases hok:x.okB = true
      ·rw [show (((Do x a).1,(0:Int),(Do x a).2)) = (some (((Ah x.toN a).1,(0:Int),(Ah x.toN a).2)).1,(((Ah x.toN a).1,(0:Int),(Ah x.toN a).2)).2) from by unfold Do;simp [hok]]
       exact GZ a0 x (σ #[O U x.key,ψ A x.counts.length c,ψ B x.trusts.length d,ψ C x.cells.length e,ψ E x.slots.length sc,O U x.count]) (w.1.size + 1) (Ah x.toN a) u hx hi (HR.out.grow hk.1) hE (fun k e=>by cases e) hok (fun u' b p cs hb hp1 hpb hbu hcp hv=>Lh a0 x.toN cs b p (w.1.size + 1) a u' (hE.below hb) (VolG.inv hi hok).2 hv hcp hpb hbu ((hk.below hb).at_ (by simp)))
      ·rw [show (((Do x a).1,(0:Int),(Do x a).2)) = (none,0,1) from by unfold Do;simp [hok]]
       exact Hl a0 x (σ #[O U x.key,ψ A x.counts.length c,ψ B x.trusts.length d,ψ C x.cells.length e,ψ E x.slots.length sc,O U x.count]) (w.1.size + 1) u hx hi (HR.out.grow hk.1) hE (fun k e=>by cases e) (by simpa using hok)
   | have WC:∀ (u:World),Kept w [(w.1.size + 1 + 1,31,#[O U 0,ψ none 0 0,ψ none 0 0,ψ none 0 0,ψ none 0 0,O U 0]),(w.1.size + 1,2,#[O U a]),(w.1.size,31,#[O U x.key,ψ A x.counts.length c,ψ B x.trusts.length d,ψ C x.cells.length e,ψ E x.slots.length sc,O U x.count])] u -> Calls prog 50 #[σ #[O U x.key,ψ A x.counts.length c,ψ B x.trusts.length d,ψ C x.cells.length e,ψ E x.slots.length sc,O U x.count],.func (.func 94) #[] #[.pointer (some ⟨w.1.size + 1,0,none⟩)]] u (GW u none (((CN x a).1,(0:Int),(CN x a).2))):=fun u hk=>by
       have hE:=he.below hk.1
       by_cases hok:x.okB = true
       ·rw [show (((CN x a).1,(0:Int),(CN x a).2)) = (some (((Bw x.toN a).1,(0:Int),(Bw x.toN a).2)).1,(((Bw x.toN a).1,(0:Int),(Bw x.toN a).2)).2) from by unfold CN;simp [hok]]
        exact Hm a0 x (σ #[O U x.key,ψ A x.counts.length c,ψ B x.trusts.length d,ψ C x.cells.length e,ψ E x.slots.length sc,O U x.count]) (w.1.size + 1) (Bw x.toN a) u hx hi (HR.out.grow hk.1) hE (fun k e=>by cases e) hok (fun u' b p cs hb hp1 hpb hbu hcp hv=>Ka a0 x.toN cs b p (w.1.size + 1) a u' (hE.below hb) hv hcp hpb hbu ((hk.below hb).at_ (by simp)))
       ·rw [show (((CN x a).1,(0:Int),(CN x a).2)) = (none,0,1) from by unfold CN;simp [hok]]
        exact Ia a0 x (σ #[O U x.key,ψ A x.counts.length c,ψ B x.trusts.length d,ψ C x.cells.length e,ψ E x.slots.length sc,O U x.count]) (w.1.size + 1) u hx hi (HR.out.grow hk.1) hE (fun k e=>by cases e) (by simpa using hok)
  have HWC:=hid WC
  clear WC hx hi he i1 i2 i3 i4 i5 i6 HR
  first
   | guard_hyp z_1
     have qd:(((Do x a).1,(0:Int),(Do x a).2)).1 = (Do x a).1 /\ (((Do x a).1,(0:Int),(Do x a).2)).2.2 = (Do x a).2:=⟨rfl,rfl⟩
     generalize (((Do x a).1,(0:Int),(Do x a).2)) = qq at HWC qd
     generalize (Do x a) = ga at qd |-
   | have qd:(((CN x a).1,(0:Int),(CN x a).2)).1 = (CN x a).1 /\ (((CN x a).1,(0:Int),(CN x a).2)).2.2 = (CN x a).2:=⟨rfl,rfl⟩
     generalize (((CN x a).1,(0:Int),(CN x a).2)) = qq at HWC qd
     generalize (CN x a) = ga at qd |-
  obtain ⟨o,qz⟩:=ga
  obtain ⟨o',z',q'⟩:=qq
  obtain ⟨rfl,rfl⟩:=qd
  first
   | guard_hyp z_1
     go_enter func27,ntmps27
   | go_enter func33,ntmps33
  go_upto_region 1 with fail
  have k0:=K0.out
  clear K0
  generalize World.alloc _ _ = w0 at k0 |-
  obtain ⟨X0,Y0,X1,Y1,X2,Y2,-⟩:=k0.rd
  go_wp2_with fail
  refine (HWC.out _ k0).mono ?_;rintro e1 w1 ⟨cs,rfl,hv1,ht1,-⟩
  have k1:=k0.below ht1.none
  have hs1:w.1.size <= w0.1.size:=k0.1.size
  have hlt:w.1.size + 1 + 1 < w0.1.size:=k0.lt (x:=(w.1.size + 1 + 1,31,#[O U 0,ψ none 0 0,ψ none 0 0,ψ none 0 0,ψ none 0 0,O U 0])) (by simp)
  obtain ⟨k9,A9,n0,c9,B9,n1,d9,C9,n2,e9,E9,n3,f9,m9,rfl⟩:=hv1.lits
  clear k0 ht1 HWC X0 Y0 X1 Y1 X2 Y2
  obtain ⟨X0,Y0,X1,Y1,X2,Y2,-⟩:=k1.rd
  have K1:=hid k1
  have HV:=hid hv1
  clear k1 hv1
  go_wp2_with fail
  obtain ⟨w9,e9',⟨d0,d1,d2,d3,d4,d5⟩,hb9,hg9⟩:=AN (w:=w) (x0:=O U k9) (x1:=ψ A9 n0 c9) (x2:=ψ B9 n1 d9) (x3:=ψ C9 n2 e9) (x4:=ψ E9 n3 f9) (x5:=O U m9) (K1.out.at_ (p:=w.1.size + 1 + 1) (t:=31) (cs:=#[O U 0,ψ none 0 0,ψ none 0 0,ψ none 0 0,ψ none 0 0,O U 0]) (by simp)) K1.out.1 (by omega)
  rw [e9']
  first
   | guard_hyp z_1
     exact bodyPost_ret (v:=.tuple #[σ #[O U k9,ψ A9 n0 c9,ψ B9 n1 d9,ψ C9 n2 e9,ψ E9 n3 f9,O U m9],O U q']) (by simp [results,results27,go_sem,d0,d1,d2,d3,d4,d5]) rfl ⟨_,rfl,(HV.out.out hg9 hlt).mono hs1,hb9⟩
   | exact bodyPost_ret (v:=.tuple #[σ #[O U k9,ψ A9 n0 c9,ψ B9 n1 d9,ψ C9 n2 e9,ψ E9 n3 f9,O U m9],O U q']) (by simp [results,results33,go_sem,d0,d1,d2,d3,d4,d5]) rfl ⟨_,rfl,(HV.out.out hg9 hlt).mono hs1,hb9⟩
theorem Je:type_of% Dv.1:=Dv.1
theorem Jz:type_of% Dv.2:=Dv.2
theorem Jg (a0:Addr) (x:VolG) (v:Value)  (w:World) (hx:x.Short) (hi:x.Int64) (hr:RdG w w.1.size x v) (he:Bad1 w a0)  :
    Calls prog 30 #[v] w (Ans2 w (Dt x)):=by
 obtain ⟨A,c,B,d,C,e,E,sc,rfl,i1,i2,i3,i4,i5,i6⟩:=hr
 have hmf:∀ (fn:Fn) (first cap:Array Value) (w:World),(Instr.makeFunc fn first cap).run prog w = .ok (.func fn first cap) w:=fun _ _ _ _=>rfl
 have K0:=hid (show Kept w [(w.1.size + 1,31,#[O U 0,ψ none 0 0,ψ none 0 0,ψ none 0 0,ψ none 0 0,O U 0]),(w.1.size,31,#[O U x.key,ψ A x.counts.length c,ψ B x.trusts.length d,ψ C x.cells.length e,ψ E x.slots.length sc,O U x.count])] _ from (((Kept.refl w).put1 _ _ #[O U x.key,ψ A x.counts.length c,ψ B x.trusts.length d,ψ C x.cells.length e,ψ E x.slots.length sc,O U x.count] rfl).put1 _ _ #[O U 0,ψ none 0 0,ψ none 0 0,ψ none 0 0,ψ none 0 0,O U 0] (by simp)))
 have HR:=hid (show RdG w w.1.size x (σ #[O U x.key,ψ A x.counts.length c,ψ B x.trusts.length d,ψ C x.cells.length e,ψ E x.slots.length sc,O U x.count]) from ⟨A,c,B,d,C,e,E,sc,rfl,i1,i2,i3,i4,i5,i6⟩)
 have WC:∀ (u:World),Kept w [(w.1.size + 1,31,#[O U 0,ψ none 0 0,ψ none 0 0,ψ none 0 0,ψ none 0 0,O U 0]),(w.1.size,31,#[O U x.key,ψ A x.counts.length c,ψ B x.trusts.length d,ψ C x.cells.length e,ψ E x.slots.length sc,O U x.count])] u -> Calls prog 50 #[σ #[O U x.key,ψ A x.counts.length c,ψ B x.trusts.length d,ψ C x.cells.length e,ψ E x.slots.length sc,O U x.count],.func (.func 89) #[] #[]] u (GW u none (((Dt x).1,(0:Int),(Dt x).2))):=fun u hk=>by
  have hE:=he.below hk.1
  by_cases hok:x.okB = true
  ·rw [show (((Dt x).1,(0:Int),(Dt x).2)) = (some (((Bc x.toN).1,(0:Int),(Bc x.toN).2)).1,(((Bc x.toN).1,(0:Int),(Bc x.toN).2)).2) from by unfold Dt;simp [hok]]
   exact Hn a0 x (σ #[O U x.key,ψ A x.counts.length c,ψ B x.trusts.length d,ψ C x.cells.length e,ψ E x.slots.length sc,O U x.count])  (Bc x.toN) u hx hi (HR.out.grow hk.1) hE (fun k e=>by cases e) hok (fun u' b p cs hb hp1 hpb hbu hcp hv=>Ki a0 x.toN cs b p u' (VolG.inv hi hok).2 hv hcp hpb hbu)
  ·rw [show (((Dt x).1,(0:Int),(Dt x).2)) = (none,0,1) from by unfold Dt;simp [hok]]
   exact Ii a0 x (σ #[O U x.key,ψ A x.counts.length c,ψ B x.trusts.length d,ψ C x.cells.length e,ψ E x.slots.length sc,O U x.count])  u hx hi (HR.out.grow hk.1) hE (fun k e=>by cases e) (by simpa using hok)
 have HWC:=hid WC
 clear WC hx hi he i1 i2 i3 i4 i5 i6 HR
 have qd:(((Dt x).1,(0:Int),(Dt x).2)).1 = (Dt x).1 /\ (((Dt x).1,(0:Int),(Dt x).2)).2.2 = (Dt x).2:=⟨rfl,rfl⟩
 generalize (((Dt x).1,(0:Int),(Dt x).2)) = qq at HWC qd
 generalize (Dt x) = ga at qd |-
 obtain ⟨o,qz⟩:=ga
 obtain ⟨o',z',q'⟩:=qq
 obtain ⟨rfl,rfl⟩:=qd
 go_enter func30,ntmps30
 go_upto_region 1 with fail
 have k0:=K0.out
 clear K0
 generalize World.alloc _ _ = w0 at k0 |-
 obtain ⟨X0,Y0,X1,Y1,-⟩:=k0.rd
 go_wp2_with fail
 refine (HWC.out _ k0).mono ?_;rintro e1 w1 ⟨cs,rfl,hv1,ht1,-⟩
 have k1:=k0.below ht1.none
 have hs1:w.1.size <= w0.1.size:=k0.1.size
 have hlt:w.1.size + 1 < w0.1.size:=k0.lt (x:=(w.1.size + 1,31,#[O U 0,ψ none 0 0,ψ none 0 0,ψ none 0 0,ψ none 0 0,O U 0])) (by simp)
 obtain ⟨k9,A9,n0,c9,B9,n1,d9,C9,n2,e9,E9,n3,f9,m9,rfl⟩:=hv1.lits
 clear k0 ht1 HWC X0 Y0 X1 Y1
 obtain ⟨X0,Y0,X1,Y1,-⟩:=k1.rd
 have K1:=hid k1
 have HV:=hid hv1
 clear k1 hv1
 go_wp2_with fail
 obtain ⟨w9,e9',⟨d0,d1,d2,d3,d4,d5⟩,hb9,hg9⟩:=AN (w:=w) (x0:=O U k9) (x1:=ψ A9 n0 c9) (x2:=ψ B9 n1 d9) (x3:=ψ C9 n2 e9) (x4:=ψ E9 n3 f9) (x5:=O U m9) (K1.out.at_ (p:=w.1.size + 1) (t:=31) (cs:=#[O U 0,ψ none 0 0,ψ none 0 0,ψ none 0 0,ψ none 0 0,O U 0]) (by simp)) K1.out.1 (by omega)
 rw [e9']
 exact bodyPost_ret (v:=.tuple #[σ #[O U k9,ψ A9 n0 c9,ψ B9 n1 d9,ψ C9 n2 e9,ψ E9 n3 f9,O U m9],O U q']) (by simp [results,results30,go_sem,d0,d1,d2,d3,d4,d5]) rfl ⟨_,rfl,(HV.out.out hg9 hlt).mono hs1,hb9⟩
theorem Kv (e0:Addr):PN (fun u=>Bad1 u e0):=fun x v w a hx hi h he=>Je e0 x v a w hx hi h he
theorem QO (e0:Addr):QN (fun u=>Bad1 u e0):=fun x v w a hx hi h he=>Jz e0 x v a w hx hi h he
theorem Mu (e0:Addr):Ra (fun u=>Bad1 u e0):=fun x v w hx hi h he=>Jg e0 x v w hx hi h he

import Derived.Test.YteoijmejhdocdaaGreatDoorV26
namespace Go.Proofs.YteoijmejhdocdaaGreatDoor.Mx
open Go.ChangeShapes Go.WideShapes Go.ChangeAt Go.RowKit
set_option linter.unusedVariables false
open Go.Lib (hid)
open Go.Proofs.Tryz
set_option maxRecDepth 20000
set_option maxHeartbeats 64000000
open Value renaming int → O, slice → ψ, bool → φ, agg → σ
open IntKind renaming i64 → U
open Ending renaming returned → τ
theorem Cf {P:Program} {ρ:Operand -> Value} {o:Oper} {t e:TypeId} {x:Operand} {w:World} {K:Value -> World -> Prop} {a:Addr} {z:Value} (hc:w.cell? a = some z) (hop:o.op = .load t x) (hx:ρ x = .pointer (some a)) (hu:P.underlying t = some (.slice e)) (h:K z w):Bt P ((execOp ρ o).run P w) K:=by
 have e2:(execOp ρ o).run P w = .ok (.value z) w:=by
  unfold execOp
  rw [hop]
  simp [hx,Instr.loadAt,Instr.sureAddr,loadVar,isAgg,underlying,hu,hc,Result.andThen]
 rw [e2]
 exact h
theorem Bj {P:Program} {ρ:Operand -> Value} {o:Oper} {x:Operand} {w:World} {K:Value -> World -> Prop} {a:Addr} (hop:o.op = .nilCheck x) (hx:ρ x = .pointer (some a)) (h:K (.pointer (some a)) w):Bt P ((execOp ρ o).run P w) K:=by
 have e2:(execOp ρ o).run P w = .ok (.value (.pointer (some a))) w:=by
  unfold execOp
  rw [hop]
  simp [hx,go_sem]
 rw [e2]
 exact h
theorem Cp {P:Program} {ρ:Operand -> Value} {o:Oper} {t:TypeId} {x y:Operand} {w:World} {K:Value -> World -> Prop} {p off:Nat} {T:TypeId} {old:Array Value} {A:Option Addr} {n c:Nat}
    (hc:Aa w p T old) (hsz:off < old.size) (hop:o.op = .store t x y) (hx:ρ x = .pointer (some ⟨p,off,none⟩)) (hy:ρ y = ψ A n c) (hi:(P.info? t).map (·.size) = some 1)
    (h:∀ w',Aa w' p T (old.setIfInBounds off (ψ A n c)) -> w.grownBy w' (some p) -> w'.1.size = w.1.size -> K undef w'):Bt P ((execOp ρ o).run P w) K:=by
 obtain ⟨z,hz⟩:∃ z,w.cell? ⟨p,off,none⟩ = some z:=⟨_,(hc.cell off).trans (Array.getElem?_eq_getElem hsz)⟩
 have hf:=hc.frozen off
 have e2:(execOp ρ o).run P w = .ok .skip (w.setCell ⟨p,off,none⟩ (ψ A n c)):=by
  unfold execOp
  rw [hop]
  have hq:∃ i,P.info? t = some i /\ i.size = 1:=by
   obtain ⟨i,h1,h2⟩:=Option.map_eq_some_iff.1 hi
   exact ⟨i,h1,h2⟩
  obtain ⟨i,hi1,hi2⟩:=hq
  simp [hx,hy,Instr.storeAt,Instr.sureAddr,storeVar,sizeOf,typeInfo,hi1,hi2,Value.cells,storeCells,go_sem,hz,hf,Addr.add]
 rw [e2]
 exact h _ (hc.set_ off _) (Ai (Aj w (some p)) off _) (by simp [World.setCell])
def Dup3 (w1:World) (p:Nat) (t:TypeId) (cells:Bool -> Bool -> Bool -> Array Value) (T0:TypeId) (X0:Array Value) (T1:TypeId) (X1:Array Value) (T2:TypeId) (X2:Array Value) (D:Nat -> Bool) (u:World):Prop:=
 (D 2 = true -> D 1 = true) /\ (D 10 = true -> D 2 = true) /\ (D 5 = true -> D 4 = true) /\ (D 5 = true -> D 2 = true) /\ (D 12 = true -> D 5 = true) /\ (D 8 = true -> D 7 = true) /\ (D 8 = true -> D 5 = true) /\ (D 14 = true -> D 8 = true) /\ u.1.size = w1.1.size + (D 2).toNat + (D 5).toNat + (D 8).toNat /\ (D 2 = true -> Aa u (w1.1.size) T0 X0) /\ (D 5 = true -> Aa u (w1.1.size + 1) T1 X1) /\ (D 8 = true -> Aa u (w1.1.size + 2) T2 X2) /\ Aa u p t (cells (D 10) (D 12) (D 14)) /\ Mid p (p + 1) w1 u
namespace Dup3
variable {w1 u u':World} {p:Nat} {t:TypeId} {cells:Bool -> Bool -> Bool -> Array Value} {T0:TypeId} {X0:Array Value} {T1:TypeId} {X1:Array Value} {T2:TypeId} {X2:Array Value} {D:Nat -> Bool}
theorem start (h:Aa w1 p t (cells false false false)):Dup3 w1 p t cells T0 X0 T1 X1 T2 X2 (fun _=>false) w1.drew:=
 ⟨fun e=>(by cases e),fun e=>(by cases e),fun e=>(by cases e),fun e=>(by cases e),fun e=>(by cases e),fun e=>(by cases e),fun e=>(by cases e),fun e=>(by cases e),rfl,fun e=>(by cases e),fun e=>(by cases e),fun e=>(by cases e),h,⟨rfl,rfl,rfl,lr _,fun _ _ _=>rfl⟩⟩
theorem load1 (h:Dup3 w1 p t cells T0 X0 T1 X1 T2 X2 D u):Dup3 w1 p t cells T0 X0 T1 X1 T2 X2 (setD D 1) u:=by
 obtain ⟨dl0,ds0,dl1,dc1,ds1,dl2,dc2,ds2,hs,hm0,hm1,hm2,hp,hmid⟩:=h
 have e:∀ j,j ≠ 1 -> setD D 1 j = D j:=fun j hj=>by unfold setD;simp [hj]
 have ek:setD D 1 1 = true:=by unfold setD;simp
 unfold Dup3
 simp only [e 4 (by decide),e 7 (by decide),e 2 (by decide),e 5 (by decide),e 8 (by decide),e 10 (by decide),e 12 (by decide),e 14 (by decide),ek]
 exact ⟨(by simp),ds0,dl1,dc1,ds1,dl2,dc2,ds2,hs,hm0,hm1,hm2,hp,hmid⟩
theorem at1 (h:Dup3 w1 p t cells T0 X0 T1 X1 T2 X2 D u) (hD:D 1 = false):∃ b1 b2,Aa u p t (cells false b1 b2):=by
 obtain ⟨dl0,ds0,dl1,dc1,ds1,dl2,dc2,ds2,hs,hm0,hm1,hm2,hp,hmid⟩:=h
 have e1:D 10 = false:=by cases e:D 10;rfl;have:=dl0 (ds0 e);rw [hD] at this;cases this
 rw [e1] at hp
 exact ⟨_,_,hp⟩
theorem load4 (h:Dup3 w1 p t cells T0 X0 T1 X1 T2 X2 D u):Dup3 w1 p t cells T0 X0 T1 X1 T2 X2 (setD D 4) u:=by
 obtain ⟨dl0,ds0,dl1,dc1,ds1,dl2,dc2,ds2,hs,hm0,hm1,hm2,hp,hmid⟩:=h
 have e:∀ j,j ≠ 4 -> setD D 4 j = D j:=fun j hj=>by unfold setD;simp [hj]
 have ek:setD D 4 4 = true:=by unfold setD;simp
 unfold Dup3
 simp only [e 1 (by decide),e 7 (by decide),e 2 (by decide),e 5 (by decide),e 8 (by decide),e 10 (by decide),e 12 (by decide),e 14 (by decide),ek]
 exact ⟨dl0,ds0,(by simp),dc1,ds1,dl2,dc2,ds2,hs,hm0,hm1,hm2,hp,hmid⟩
theorem at4 (h:Dup3 w1 p t cells T0 X0 T1 X1 T2 X2 D u) (hD:D 4 = false):∃ b0 b2,Aa u p t (cells b0 false b2):=by
 obtain ⟨dl0,ds0,dl1,dc1,ds1,dl2,dc2,ds2,hs,hm0,hm1,hm2,hp,hmid⟩:=h
 have e1:D 12 = false:=by cases e:D 12;rfl;have:=dl1 (ds1 e);rw [hD] at this;cases this
 rw [e1] at hp
 exact ⟨_,_,hp⟩
theorem load7 (h:Dup3 w1 p t cells T0 X0 T1 X1 T2 X2 D u):Dup3 w1 p t cells T0 X0 T1 X1 T2 X2 (setD D 7) u:=by
 obtain ⟨dl0,ds0,dl1,dc1,ds1,dl2,dc2,ds2,hs,hm0,hm1,hm2,hp,hmid⟩:=h
 have e:∀ j,j ≠ 7 -> setD D 7 j = D j:=fun j hj=>by unfold setD;simp [hj]
 have ek:setD D 7 7 = true:=by unfold setD;simp
 unfold Dup3
 simp only [e 1 (by decide),e 4 (by decide),e 2 (by decide),e 5 (by decide),e 8 (by decide),e 10 (by decide),e 12 (by decide),e 14 (by decide),ek]
 exact ⟨dl0,ds0,dl1,dc1,ds1,(by simp),dc2,ds2,hs,hm0,hm1,hm2,hp,hmid⟩
theorem at7 (h:Dup3 w1 p t cells T0 X0 T1 X1 T2 X2 D u) (hD:D 7 = false):∃ b0 b1,Aa u p t (cells b0 b1 false):=by
 obtain ⟨dl0,ds0,dl1,dc1,ds1,dl2,dc2,ds2,hs,hm0,hm1,hm2,hp,hmid⟩:=h
 have e1:D 14 = false:=by cases e:D 14;rfl;have:=dl2 (ds2 e);rw [hD] at this;cases this
 rw [e1] at hp
 exact ⟨_,_,hp⟩
theorem size2 (h:Dup3 w1 p t cells T0 X0 T1 X1 T2 X2 D u) (hD:D 2 = false):u.1.size = w1.1.size:=by
 obtain ⟨dl0,ds0,dl1,dc1,ds1,dl2,dc2,ds2,hs,hm0,hm1,hm2,hp,hmid⟩:=h
 have f1:D 5 = false:=by cases e:D 5;rfl;have:=dc1 e;rw [hD] at this;cases this
 have f2:D 8 = false:=by cases e:D 8;rfl;have:=dc2 e;rw [f1] at this;cases this
 rw [hs,hD,f1,f2]
 rfl
theorem call2 (h:Dup3 w1 p t cells T0 X0 T1 X1 T2 X2 D u) (hD:D 2 = false) (hl:D 1 = true) (hb:Below u.1.size u u') (hn:u'.1.size = u.1.size + 1) (hx:Aa u' u.1.size T0 X0):Dup3 w1 p t cells T0 X0 T1 X1 T2 X2 (setD D 2) u':=by
 have hsz:=h.size2 hD
 rw [hsz] at hx
 obtain ⟨dl0,ds0,dl1,dc1,ds1,dl2,dc2,ds2,hs,hm0,hm1,hm2,hp,hmid⟩:=h
 have e:∀ j,j ≠ 2 -> setD D 2 j = D j:=fun j hj=>by unfold setD;simp [hj]
 have ek:setD D 2 2 = true:=by unfold setD;simp
 unfold Dup3
 simp only [e 1 (by decide),e 4 (by decide),e 7 (by decide),e 5 (by decide),e 8 (by decide),e 10 (by decide),e 12 (by decide),e 14 (by decide),ek]
 exact ⟨fun _=>hl,(by simp),dl1,(by simp),ds1,dl2,dc2,ds2,(by rw [hn,hs,hD];simp only [Bool.toNat_true,Bool.toNat_false] <;> omega),fun _=>hx,fun e=>(hm1 e).below hb (hm1 e).lt,fun e=>(hm2 e).below hb (hm2 e).lt,hp.below hb hp.lt,hmid.trans (Mid.of_below hb)⟩
theorem size5 (h:Dup3 w1 p t cells T0 X0 T1 X1 T2 X2 D u) (hD:D 5 = false) (hc:D 2 = true):u.1.size = w1.1.size + 1:=by
 obtain ⟨dl0,ds0,dl1,dc1,ds1,dl2,dc2,ds2,hs,hm0,hm1,hm2,hp,hmid⟩:=h
 have f2:D 8 = false:=by cases e:D 8;rfl;have:=dc2 e;rw [hD] at this;cases this
 rw [hs,hD,f2,hc]
 rfl
theorem call5 (h:Dup3 w1 p t cells T0 X0 T1 X1 T2 X2 D u) (hD:D 5 = false) (hl:D 4 = true) (hc:D 2 = true) (hb:Below u.1.size u u') (hn:u'.1.size = u.1.size + 1) (hx:Aa u' u.1.size T1 X1):Dup3 w1 p t cells T0 X0 T1 X1 T2 X2 (setD D 5) u':=by
 have hsz:=h.size5 hD hc
 rw [hsz] at hx
 obtain ⟨dl0,ds0,dl1,dc1,ds1,dl2,dc2,ds2,hs,hm0,hm1,hm2,hp,hmid⟩:=h
 have e:∀ j,j ≠ 5 -> setD D 5 j = D j:=fun j hj=>by unfold setD;simp [hj]
 have ek:setD D 5 5 = true:=by unfold setD;simp
 unfold Dup3
 simp only [e 1 (by decide),e 4 (by decide),e 7 (by decide),e 2 (by decide),e 8 (by decide),e 10 (by decide),e 12 (by decide),e 14 (by decide),ek]
 exact ⟨dl0,ds0,fun _=>hl,fun _=>hc,(by simp),dl2,(by simp),ds2,(by rw [hn,hs,hD];simp only [Bool.toNat_true,Bool.toNat_false] <;> omega),fun e=>(hm0 e).below hb (hm0 e).lt,fun _=>hx,fun e=>(hm2 e).below hb (hm2 e).lt,hp.below hb hp.lt,hmid.trans (Mid.of_below hb)⟩
theorem size8 (h:Dup3 w1 p t cells T0 X0 T1 X1 T2 X2 D u) (hD:D 8 = false) (hc:D 5 = true):u.1.size = w1.1.size + 2:=by
 obtain ⟨dl0,ds0,dl1,dc1,ds1,dl2,dc2,ds2,hs,hm0,hm1,hm2,hp,hmid⟩:=h
 have g0:D 2 = true:=dc1 hc
 rw [hs,hD,hc,g0]
 rfl
theorem call8 (h:Dup3 w1 p t cells T0 X0 T1 X1 T2 X2 D u) (hD:D 8 = false) (hl:D 7 = true) (hc:D 5 = true) (hb:Below u.1.size u u') (hn:u'.1.size = u.1.size + 1) (hx:Aa u' u.1.size T2 X2):Dup3 w1 p t cells T0 X0 T1 X1 T2 X2 (setD D 8) u':=by
 have hsz:=h.size8 hD hc
 rw [hsz] at hx
 obtain ⟨dl0,ds0,dl1,dc1,ds1,dl2,dc2,ds2,hs,hm0,hm1,hm2,hp,hmid⟩:=h
 have e:∀ j,j ≠ 8 -> setD D 8 j = D j:=fun j hj=>by unfold setD;simp [hj]
 have ek:setD D 8 8 = true:=by unfold setD;simp
 unfold Dup3
 simp only [e 1 (by decide),e 4 (by decide),e 7 (by decide),e 2 (by decide),e 5 (by decide),e 10 (by decide),e 12 (by decide),e 14 (by decide),ek]
 exact ⟨dl0,ds0,dl1,dc1,ds1,fun _=>hl,fun _=>hc,(by simp),(by rw [hn,hs,hD];simp only [Bool.toNat_true,Bool.toNat_false] <;> omega),fun e=>(hm0 e).below hb (hm0 e).lt,fun e=>(hm1 e).below hb (hm1 e).lt,fun _=>hx,hp.below hb hp.lt,hmid.trans (Mid.of_below hb)⟩
theorem store10 (h:Dup3 w1 p t cells T0 X0 T1 X1 T2 X2 D u) (hc:D 2 = true) (hpl:p < w1.1.size) (hn:u'.1.size = u.1.size) (hg:u.grownBy u' (some p)) (hx:Aa u' p t (cells true (D 12) (D 14))):Dup3 w1 p t cells T0 X0 T1 X1 T2 X2 (setD D 10) u':=by
 obtain ⟨dl0,ds0,dl1,dc1,ds1,dl2,dc2,ds2,hs,hm0,hm1,hm2,hp,hmid⟩:=h
 have e:∀ j,j ≠ 10 -> setD D 10 j = D j:=fun j hj=>by unfold setD;simp [hj]
 have ek:setD D 10 10 = true:=by unfold setD;simp
 unfold Dup3
 simp only [e 1 (by decide),e 4 (by decide),e 7 (by decide),e 2 (by decide),e 5 (by decide),e 8 (by decide),e 12 (by decide),e 14 (by decide),ek]
 exact ⟨dl0,fun _=>hc,dl1,dc1,ds1,dl2,dc2,ds2,hn.trans hs,fun e=>(hm0 e).grown hg (by intro e2;injection e2;omega),fun e=>(hm1 e).grown hg (by intro e2;injection e2;omega),fun e=>(hm2 e).grown hg (by intro e2;injection e2;omega),hx,hmid.trans (Mid.of hg (fun k e=>by injection e;omega))⟩
theorem store12 (h:Dup3 w1 p t cells T0 X0 T1 X1 T2 X2 D u) (hc:D 5 = true) (hpl:p < w1.1.size) (hn:u'.1.size = u.1.size) (hg:u.grownBy u' (some p)) (hx:Aa u' p t (cells (D 10) true (D 14))):Dup3 w1 p t cells T0 X0 T1 X1 T2 X2 (setD D 12) u':=by
 obtain ⟨dl0,ds0,dl1,dc1,ds1,dl2,dc2,ds2,hs,hm0,hm1,hm2,hp,hmid⟩:=h
 have e:∀ j,j ≠ 12 -> setD D 12 j = D j:=fun j hj=>by unfold setD;simp [hj]
 have ek:setD D 12 12 = true:=by unfold setD;simp
 unfold Dup3
 simp only [e 1 (by decide),e 4 (by decide),e 7 (by decide),e 2 (by decide),e 5 (by decide),e 8 (by decide),e 10 (by decide),e 14 (by decide),ek]
 exact ⟨dl0,ds0,dl1,dc1,fun _=>hc,dl2,dc2,ds2,hn.trans hs,fun e=>(hm0 e).grown hg (by intro e2;injection e2;omega),fun e=>(hm1 e).grown hg (by intro e2;injection e2;omega),fun e=>(hm2 e).grown hg (by intro e2;injection e2;omega),hx,hmid.trans (Mid.of hg (fun k e=>by injection e;omega))⟩
theorem store14 (h:Dup3 w1 p t cells T0 X0 T1 X1 T2 X2 D u) (hc:D 8 = true) (hpl:p < w1.1.size) (hn:u'.1.size = u.1.size) (hg:u.grownBy u' (some p)) (hx:Aa u' p t (cells (D 10) (D 12) true)):Dup3 w1 p t cells T0 X0 T1 X1 T2 X2 (setD D 14) u':=by
 obtain ⟨dl0,ds0,dl1,dc1,ds1,dl2,dc2,ds2,hs,hm0,hm1,hm2,hp,hmid⟩:=h
 have e:∀ j,j ≠ 14 -> setD D 14 j = D j:=fun j hj=>by unfold setD;simp [hj]
 have ek:setD D 14 14 = true:=by unfold setD;simp
 unfold Dup3
 simp only [e 1 (by decide),e 4 (by decide),e 7 (by decide),e 2 (by decide),e 5 (by decide),e 8 (by decide),e 10 (by decide),e 12 (by decide),ek]
 exact ⟨dl0,ds0,dl1,dc1,ds1,dl2,dc2,fun _=>hc,hn.trans hs,fun e=>(hm0 e).grown hg (by intro e2;injection e2;omega),fun e=>(hm1 e).grown hg (by intro e2;injection e2;omega),fun e=>(hm2 e).grown hg (by intro e2;injection e2;omega),hx,hmid.trans (Mid.of hg (fun k e=>by injection e;omega))⟩
theorem done (h:Dup3 w1 p t cells T0 X0 T1 X1 T2 X2 D u) (e2:D 2 = true) (e5:D 5 = true) (e8:D 8 = true) (e10:D 10 = true) (e12:D 12 = true) (e14:D 14 = true):Aa u (w1.1.size) T0 X0 /\ Aa u (w1.1.size + 1) T1 X1 /\ Aa u (w1.1.size + 2) T2 X2 /\ Aa u p t (cells true true true) /\ u.1.size = w1.1.size + 3 /\ Mid p (p + 1) w1 u:=by
 obtain ⟨dl0,ds0,dl1,dc1,ds1,dl2,dc2,ds2,hs,hm0,hm1,hm2,hp,hmid⟩:=h
 rw [e2,e5,e8] at hs
 rw [e10,e12,e14] at hp
 exact ⟨hm0 e2,hm1 e5,hm2 e8,hp,hs,hmid⟩
theorem cur (h:Dup3 w1 p t cells T0 X0 T1 X1 T2 X2 D u):Aa u p t (cells (D 10) (D 12) (D 14)):=by
 obtain ⟨dl0,ds0,dl1,dc1,ds1,dl2,dc2,ds2,hs,hm0,hm1,hm2,hp,hmid⟩:=h
 exact hp
theorem mid (h:Dup3 w1 p t cells T0 X0 T1 X1 T2 X2 D u):Mid p (p + 1) w1 u:=by
 obtain ⟨dl0,ds0,dl1,dc1,ds1,dl2,dc2,ds2,hs,hm0,hm1,hm2,hp,hmid⟩:=h
 exact hmid
end Dup3
def Dup2 (w1:World) (p:Nat) (t:TypeId) (cells:Bool -> Bool -> Array Value) (T0:TypeId) (X0:Array Value) (T1:TypeId) (X1:Array Value) (D:Nat -> Bool) (u:World):Prop:=
 (D 7 = true -> D 6 = true) /\ (D 16 = true -> D 7 = true) /\ (D 12 = true -> D 11 = true) /\ (D 12 = true -> D 7 = true) /\ (D 19 = true -> D 12 = true) /\ u.1.size = w1.1.size + (D 7).toNat + (D 12).toNat /\ (D 7 = true -> Aa u (w1.1.size) T0 X0) /\ (D 12 = true -> Aa u (w1.1.size + 1) T1 X1) /\ Aa u p t (cells (D 16) (D 19)) /\ Mid p (p + 1) w1 u
namespace Dup2
variable {w1 u u':World} {p:Nat} {t:TypeId} {cells:Bool -> Bool -> Array Value} {T0:TypeId} {X0:Array Value} {T1:TypeId} {X1:Array Value} {D:Nat -> Bool}
theorem start (h:Aa w1 p t (cells false false)):Dup2 w1 p t cells T0 X0 T1 X1 (fun _=>false) w1.drew:=
 ⟨fun e=>(by cases e),fun e=>(by cases e),fun e=>(by cases e),fun e=>(by cases e),fun e=>(by cases e),rfl,fun e=>(by cases e),fun e=>(by cases e),h,⟨rfl,rfl,rfl,lr _,fun _ _ _=>rfl⟩⟩
theorem load6 (h:Dup2 w1 p t cells T0 X0 T1 X1 D u):Dup2 w1 p t cells T0 X0 T1 X1 (setD D 6) u:=by
 obtain ⟨dl0,ds0,dl1,dc1,ds1,hs,hm0,hm1,hp,hmid⟩:=h
 have e:∀ j,j ≠ 6 -> setD D 6 j = D j:=fun j hj=>by unfold setD;simp [hj]
 have ek:setD D 6 6 = true:=by unfold setD;simp
 unfold Dup2
 simp only [e 11 (by decide),e 7 (by decide),e 12 (by decide),e 16 (by decide),e 19 (by decide),ek]
 exact ⟨(by simp),ds0,dl1,dc1,ds1,hs,hm0,hm1,hp,hmid⟩
theorem at6 (h:Dup2 w1 p t cells T0 X0 T1 X1 D u) (hD:D 6 = false):∃ b1,Aa u p t (cells false b1):=by
 obtain ⟨dl0,ds0,dl1,dc1,ds1,hs,hm0,hm1,hp,hmid⟩:=h
 have e1:D 16 = false:=by cases e:D 16;rfl;have:=dl0 (ds0 e);rw [hD] at this;cases this
 rw [e1] at hp
 exact ⟨_,hp⟩
theorem load11 (h:Dup2 w1 p t cells T0 X0 T1 X1 D u):Dup2 w1 p t cells T0 X0 T1 X1 (setD D 11) u:=by
 obtain ⟨dl0,ds0,dl1,dc1,ds1,hs,hm0,hm1,hp,hmid⟩:=h
 have e:∀ j,j ≠ 11 -> setD D 11 j = D j:=fun j hj=>by unfold setD;simp [hj]
 have ek:setD D 11 11 = true:=by unfold setD;simp
 unfold Dup2
 simp only [e 6 (by decide),e 7 (by decide),e 12 (by decide),e 16 (by decide),e 19 (by decide),ek]
 exact ⟨dl0,ds0,(by simp),dc1,ds1,hs,hm0,hm1,hp,hmid⟩
theorem at11 (h:Dup2 w1 p t cells T0 X0 T1 X1 D u) (hD:D 11 = false):∃ b0,Aa u p t (cells b0 false):=by
 obtain ⟨dl0,ds0,dl1,dc1,ds1,hs,hm0,hm1,hp,hmid⟩:=h
 have e1:D 19 = false:=by cases e:D 19;rfl;have:=dl1 (ds1 e);rw [hD] at this;cases this
 rw [e1] at hp
 exact ⟨_,hp⟩
theorem size7 (h:Dup2 w1 p t cells T0 X0 T1 X1 D u) (hD:D 7 = false):u.1.size = w1.1.size:=by
 obtain ⟨dl0,ds0,dl1,dc1,ds1,hs,hm0,hm1,hp,hmid⟩:=h
 have f1:D 12 = false:=by cases e:D 12;rfl;have:=dc1 e;rw [hD] at this;cases this
 rw [hs,hD,f1]
 rfl
theorem call7 (h:Dup2 w1 p t cells T0 X0 T1 X1 D u) (hD:D 7 = false) (hl:D 6 = true) (hb:Below u.1.size u u') (hn:u'.1.size = u.1.size + 1) (hx:Aa u' u.1.size T0 X0):Dup2 w1 p t cells T0 X0 T1 X1 (setD D 7) u':=by
 have hsz:=h.size7 hD
 rw [hsz] at hx
 obtain ⟨dl0,ds0,dl1,dc1,ds1,hs,hm0,hm1,hp,hmid⟩:=h
 have e:∀ j,j ≠ 7 -> setD D 7 j = D j:=fun j hj=>by unfold setD;simp [hj]
 have ek:setD D 7 7 = true:=by unfold setD;simp
 unfold Dup2
 simp only [e 6 (by decide),e 11 (by decide),e 12 (by decide),e 16 (by decide),e 19 (by decide),ek]
 exact ⟨fun _=>hl,(by simp),dl1,(by simp),ds1,(by rw [hn,hs,hD];simp only [Bool.toNat_true,Bool.toNat_false] <;> omega),fun _=>hx,fun e=>(hm1 e).below hb (hm1 e).lt,hp.below hb hp.lt,hmid.trans (Mid.of_below hb)⟩
theorem size12 (h:Dup2 w1 p t cells T0 X0 T1 X1 D u) (hD:D 12 = false) (hc:D 7 = true):u.1.size = w1.1.size + 1:=by
 obtain ⟨dl0,ds0,dl1,dc1,ds1,hs,hm0,hm1,hp,hmid⟩:=h
 rw [hs,hD,hc]
 rfl
theorem call12 (h:Dup2 w1 p t cells T0 X0 T1 X1 D u) (hD:D 12 = false) (hl:D 11 = true) (hc:D 7 = true) (hb:Below u.1.size u u') (hn:u'.1.size = u.1.size + 1) (hx:Aa u' u.1.size T1 X1):Dup2 w1 p t cells T0 X0 T1 X1 (setD D 12) u':=by
 have hsz:=h.size12 hD hc
 rw [hsz] at hx
 obtain ⟨dl0,ds0,dl1,dc1,ds1,hs,hm0,hm1,hp,hmid⟩:=h
 have e:∀ j,j ≠ 12 -> setD D 12 j = D j:=fun j hj=>by unfold setD;simp [hj]
 have ek:setD D 12 12 = true:=by unfold setD;simp
 unfold Dup2
 simp only [e 6 (by decide),e 11 (by decide),e 7 (by decide),e 16 (by decide),e 19 (by decide),ek]
 exact ⟨dl0,ds0,fun _=>hl,fun _=>hc,(by simp),(by rw [hn,hs,hD];simp only [Bool.toNat_true,Bool.toNat_false] <;> omega),fun e=>(hm0 e).below hb (hm0 e).lt,fun _=>hx,hp.below hb hp.lt,hmid.trans (Mid.of_below hb)⟩
theorem store16 (h:Dup2 w1 p t cells T0 X0 T1 X1 D u) (hc:D 7 = true) (hpl:p < w1.1.size) (hn:u'.1.size = u.1.size) (hg:u.grownBy u' (some p)) (hx:Aa u' p t (cells true (D 19))):Dup2 w1 p t cells T0 X0 T1 X1 (setD D 16) u':=by
 obtain ⟨dl0,ds0,dl1,dc1,ds1,hs,hm0,hm1,hp,hmid⟩:=h
 have e:∀ j,j ≠ 16 -> setD D 16 j = D j:=fun j hj=>by unfold setD;simp [hj]
 have ek:setD D 16 16 = true:=by unfold setD;simp
 unfold Dup2
 simp only [e 6 (by decide),e 11 (by decide),e 7 (by decide),e 12 (by decide),e 19 (by decide),ek]
 exact ⟨dl0,fun _=>hc,dl1,dc1,ds1,hn.trans hs,fun e=>(hm0 e).grown hg (by intro e2;injection e2;omega),fun e=>(hm1 e).grown hg (by intro e2;injection e2;omega),hx,hmid.trans (Mid.of hg (fun k e=>by injection e;omega))⟩
theorem store19 (h:Dup2 w1 p t cells T0 X0 T1 X1 D u) (hc:D 12 = true) (hpl:p < w1.1.size) (hn:u'.1.size = u.1.size) (hg:u.grownBy u' (some p)) (hx:Aa u' p t (cells (D 16) true)):Dup2 w1 p t cells T0 X0 T1 X1 (setD D 19) u':=by
 obtain ⟨dl0,ds0,dl1,dc1,ds1,hs,hm0,hm1,hp,hmid⟩:=h
 have e:∀ j,j ≠ 19 -> setD D 19 j = D j:=fun j hj=>by unfold setD;simp [hj]
 have ek:setD D 19 19 = true:=by unfold setD;simp
 unfold Dup2
 simp only [e 6 (by decide),e 11 (by decide),e 7 (by decide),e 12 (by decide),e 16 (by decide),ek]
 exact ⟨dl0,ds0,dl1,dc1,fun _=>hc,hn.trans hs,fun e=>(hm0 e).grown hg (by intro e2;injection e2;omega),fun e=>(hm1 e).grown hg (by intro e2;injection e2;omega),hx,hmid.trans (Mid.of hg (fun k e=>by injection e;omega))⟩
theorem done (h:Dup2 w1 p t cells T0 X0 T1 X1 D u) (e7:D 7 = true) (e12:D 12 = true) (e16:D 16 = true) (e19:D 19 = true):Aa u (w1.1.size) T0 X0 /\ Aa u (w1.1.size + 1) T1 X1 /\ Aa u p t (cells true true) /\ u.1.size = w1.1.size + 2 /\ Mid p (p + 1) w1 u:=by
 obtain ⟨dl0,ds0,dl1,dc1,ds1,hs,hm0,hm1,hp,hmid⟩:=h
 rw [e7,e12] at hs
 rw [e16,e19] at hp
 exact ⟨hm0 e7,hm1 e12,hp,hs,hmid⟩
theorem skip (h:Dup2 w1 p t cells T0 X0 T1 X1 D u) (k:Nat) (n6:k ≠ 6) (n11:k ≠ 11) (n7:k ≠ 7) (n12:k ≠ 12) (n16:k ≠ 16) (n19:k ≠ 19):Dup2 w1 p t cells T0 X0 T1 X1 (setD D k) u:=by
 have e:∀ j,k ≠ j -> setD D k j = D j:=fun j hj=>by unfold setD;simp [Ne.symm hj]
 unfold Dup2
 simp only [e 6 n6,e 11 n11,e 7 n7,e 12 n12,e 16 n16,e 19 n19]
 exact h
theorem cur (h:Dup2 w1 p t cells T0 X0 T1 X1 D u):Aa u p t (cells (D 16) (D 19)):=by
 obtain ⟨dl0,ds0,dl1,dc1,ds1,hs,hm0,hm1,hp,hmid⟩:=h
 exact hp
theorem mid (h:Dup2 w1 p t cells T0 X0 T1 X1 D u):Mid p (p + 1) w1 u:=by
 obtain ⟨dl0,ds0,dl1,dc1,ds1,hs,hm0,hm1,hp,hmid⟩:=h
 exact hmid
end Dup2
theorem Kk (x:VolN) (A:Option Addr) (cap:Nat) (B:Option Addr) (tc:Nat) (C:Option Addr) (cc:Nat) (b off sc:Nat) (w:World) (hx:x.Short)
    (hA:Ints w U w.1.size A x.counts) (hB:Trs w w.1.size B x.trusts) (hC:Cls w w.1.size C x.cells) (hbb:b < w.1.size) (h0:Bq w w.1.size b off x.s0) (h1:Bq w w.1.size b (off + 4) x.s1):
    Calls prog 70 #[σ #[O U x.key,ψ A x.counts.length cap,ψ B x.trusts.length tc,ψ C x.cells.length cc,ψ (some ⟨b,off,none⟩) 2 sc,O U x.count]] w fun e w'=>∃ cs,e = τ (σ cs) /\ VolO w' w.1.size x (σ cs) /\ Below w.1.size w w':=by
 obtain ⟨B0,k0,C0,m0,p0,p1,p2,p3,hr0⟩:=h0
 obtain ⟨B1,k1,C1,m1,p4,p5,p6,p7,hr1⟩:=h1
 obtain ⟨x1,x2,x3,x4,x5,x6,x7⟩:=hx
 have K0:=hid (show Kept w [(w.1.size + 1,31,#[O U 0,ψ none 0 0,ψ none 0 0,ψ none 0 0,ψ none 0 0,O U 0]),(w.1.size,31,#[O U x.key,ψ A x.counts.length cap,ψ B x.trusts.length tc,ψ C x.cells.length cc,ψ (some ⟨b,off,none⟩) 2 sc,O U x.count])] _ from (((Kept.refl w).put1 _ _ #[O U x.key,ψ A x.counts.length cap,ψ B x.trusts.length tc,ψ C x.cells.length cc,ψ (some ⟨b,off,none⟩) 2 sc,O U x.count] rfl).put1 _ _ #[O U 0,ψ none 0 0,ψ none 0 0,ψ none 0 0,ψ none 0 0,O U 0] (by simp)))
 have IA:=hid (fun (u:World) (hb:Below w.1.size w u)=>Nb A x.counts cap u x1 ((hA.below hb (lr _)).more hb.size))
 have TB:=hid (fun (u:World) (hb:Below w.1.size w u)=>Fj B x.trusts tc u x2 ((hB.below hb (lr _)).more hb.size))
 have CB:=hid (fun (u:World) (hb:Below w.1.size w u)=>EK C x.cells cc u x3 ((hC.below hb (lr _)).more hb.size))
 have T0:=hid (fun (u:World) (hb:Below w.1.size w u)=>Fj B0 x.s0.trusts k0 u x4 ((hr0.1.below hb (lr _)).more hb.size))
 have C0':=hid (fun (u:World) (hb:Below w.1.size w u)=>EK C0 x.s0.cells m0 u x5 ((hr0.2.below hb (lr _)).more hb.size))
 have T1:=hid (fun (u:World) (hb:Below w.1.size w u)=>Fj B1 x.s1.trusts k1 u x6 ((hr1.1.below hb (lr _)).more hb.size))
 have C1':=hid (fun (u:World) (hb:Below w.1.size w u)=>EK C1 x.s1.cells m1 u x7 ((hr1.2.below hb (lr _)).more hb.size))
 have SB:=hid (fun (u:World) (hb:Below w.1.size w u)=>LZ b off sc _ _ _ _ _ _ _ _ u (by simp [Value.oneCell']) (Nat.lt_of_lt_of_le hbb hb.size) ((hb.cell (p:=⟨b,off,none⟩) hbb).trans p0) ((hb.cell (p:=⟨b,off + 1,none⟩) hbb).trans p1) ((hb.cell (p:=⟨b,off + 2,none⟩) hbb).trans p2) ((hb.cell (p:=⟨b,off + 3,none⟩) hbb).trans p3) ((hb.cell (p:=⟨b,off + 4,none⟩) hbb).trans p4) ((hb.cell (p:=⟨b,off + 4 + 1,none⟩) hbb).trans p5) ((hb.cell (p:=⟨b,off + 4 + 2,none⟩) hbb).trans p6) ((hb.cell (p:=⟨b,off + 4 + 3,none⟩) hbb).trans p7))
 have H8:=hid (And.intro x1 (And.intro x2 (And.intro x3 (And.intro x4 (And.intro x5 (And.intro x6 x7))))))
 clear hA hB hC hbb p0 p1 p2 p3 p4 p5 p6 p7 hr0 hr1 x1 x2 x3 x4 x5 x6 x7
 go_enter func70,ntmps70
 have SZ0:((w.alloc (.cells #[O U x.key,ψ A x.counts.length cap,ψ B x.trusts.length tc,ψ C x.cells.length cc,ψ (some ⟨b,off,none⟩) 2 sc,O U x.count] 31)).alloc (.cells #[O U 0,ψ none 0 0,ψ none 0 0,ψ none 0 0,ψ none 0 0,O U 0] 31)).1.size = w.1.size + 2:=by simp
 go_upto_region 1 with fail
 have k0:=K0.out
 clear K0
 generalize World.alloc (World.alloc _ _) _ = w0 at k0 SZ0 |-
 obtain ⟨X0,Y0,X1,Y1,-⟩:=k0.rd
 go_wp2_with fail
 refine (IA.out _ k0.1).mono ?_;rintro e w1 ⟨rfl,hc1,hb1,hs1⟩
 rw [SZ0] at hc1 hs1 |-
 have k1:=(k0.below hb1).more (by omega) hc1
 clear k0 X0 Y0 X1 Y1 hc1 hb1 IA SZ0
 obtain ⟨X0,Y0,X1,Y1,X2,Y2,-⟩:=k1.rd
 go_upto_region 2 with fail
 have k2:Kept w [(w.1.size + 2,2,(x.counts.map (Value.int U)).toArray),(w.1.size + 1,31,#[O U 0,ψ none 0 0,ψ none 0 0,ψ none 0 0,ψ none 0 0,O U 0]),(w.1.size,31,#[O U x.key,(ψ (some ⟨w.1.size + 2,0,none⟩) x.counts.length x.counts.length),(ψ B x.trusts.length tc),(ψ C x.cells.length cc),(ψ (some ⟨b,off,none⟩) 2 sc),O U x.count])] _:=k1.put (k:=2) rfl (by unfold Apart;simp <;> omega) (Ai (Aj _ (some (w.1.size))) 1 _) ((k1.at_ (p:=w.1.size) (t:=31) (cs:=#[O U x.key,ψ A x.counts.length cap,ψ B x.trusts.length tc,ψ C x.cells.length cc,ψ (some ⟨b,off,none⟩) 2 sc,O U x.count]) (by simp)).set_ 1 _)
 have hs2:(w1.setCell ⟨w.1.size,1,none⟩ (ψ (some ⟨w.1.size + 2,0,none⟩) x.counts.length x.counts.length)).1.size = w.1.size + 3:=by simpa [World.setCell] using hs1
 clear k1 X0 Y0 X1 Y1 X2 Y2 hs1
 generalize World.setCell _ _ _ = w2 at k2 hs2 |-
 have HK2:=hid k2
 have HS2:=hid hs2
 refine Ao [false,true,true,false,true,true,false,true,true,false,true,false,true,false,true] (ShV [(1,(ψ B x.trusts.length tc)),(2,(ψ (some ⟨w.1.size + 3,0,none⟩) x.trusts.length x.trusts.length)),(4,(ψ C x.cells.length cc)),(5,(ψ (some ⟨w.1.size + 4,0,none⟩) x.cells.length x.cells.length)),(7,(ψ (some ⟨b,off,none⟩) 2 sc)),(8,(ψ (some ⟨w.1.size + 5,0,none⟩) 2 2))]) (fun D _ u=>Dup3 w2 w.1.size 31 (fun b0 b1 b2=>#[O U x.key,(ψ (some ⟨w.1.size + 2,0,none⟩) x.counts.length x.counts.length),(bif b0 then (ψ (some ⟨w.1.size + 3,0,none⟩) x.trusts.length x.trusts.length) else (ψ B x.trusts.length tc)),(bif b1 then (ψ (some ⟨w.1.size + 4,0,none⟩) x.cells.length x.cells.length) else (ψ C x.cells.length cc)),(bif b2 then (ψ (some ⟨w.1.size + 5,0,none⟩) 2 2) else (ψ (some ⟨b,off,none⟩) 2 sc)),O U x.count]) 94 (Af truV x.trusts).toArray 118 (Af ceV x.cells).toArray 91 #[O U x.s0.count,(ψ B0 x.s0.trusts.length k0),O U x.s0.mac,(ψ C0 x.s0.cells.length m0),O U x.s1.count,(ψ B1 x.s1.trusts.length k1),O U x.s1.mac,(ψ C1 x.s1.cells.length m1)] D u) (by kernel_rfl) (by kernel_rfl) (fun γ=>by kernel_rfl) (fun D γ γ' w _ h=>h) (ShV.inh _) (fun γ=>Dup3.start (k2.at_ (p:=w.1.size) (t:=31) (cs:=#[O U x.key,(ψ (some ⟨w.1.size + 2,0,none⟩) x.counts.length x.counts.length),(ψ B x.trusts.length tc),(ψ C x.cells.length cc),(ψ (some ⟨b,off,none⟩) 2 sc),O U x.count]) (by simp))) (fun γ hγ=>?_)
 clear k2 hs2
 have g1:γ 1 = (ψ B x.trusts.length tc):=hγ 1 rfl
 have g2:γ 2 = (ψ (some ⟨w.1.size + 3,0,none⟩) x.trusts.length x.trusts.length):=hγ 2 rfl
 have g4:γ 4 = (ψ C x.cells.length cc):=hγ 4 rfl
 have g5:γ 5 = (ψ (some ⟨w.1.size + 4,0,none⟩) x.cells.length x.cells.length):=hγ 5 rfl
 have g7:γ 7 = (ψ (some ⟨b,off,none⟩) 2 sc):=hγ 7 rfl
 have g8:γ 8 = (ψ (some ⟨w.1.size + 5,0,none⟩) 2 2):=hγ 8 rfl
 have g10:γ 10 = undef:=hγ 10 rfl
 have g12:γ 12 = undef:=hγ 12 rfl
 have g14:γ 14 = undef:=hγ 14 rfl
 apply Exists.intro
 refine ⟨fun D=>?_,?_,?_⟩
 ·simp only [AP,cond_true,cond_false,Nat.reduceAdd,g1,g2,g4,g5,g7,g8,g10,g12,g14]
  iterate 15 (first
   | go_big_quiet_skip
   | (go_big_quiet_want
      go_big_quiet_op
      first
       | go_big_quiet_on
       | (apply Exists.intro
          refine ⟨fun u hu=>?_,?_⟩
          ·first
             | with_reducible rfl
             | (have hk9:=hu.mid;exact absurd hk9 (by simp);go_simp;first | done | with_reducible rfl)
          go_big_quiet_on)))
  exact wpQuiet_nil rfl
 ·simp only [AY,Nat.reduceAdd]
  have BW:∀ {D:Nat -> Bool} {u:World},Dup3 w2 w.1.size 31 (fun b0 b1 b2=>#[O U x.key,(ψ (some ⟨w.1.size + 2,0,none⟩) x.counts.length x.counts.length),(bif b0 then (ψ (some ⟨w.1.size + 3,0,none⟩) x.trusts.length x.trusts.length) else (ψ B x.trusts.length tc)),(bif b1 then (ψ (some ⟨w.1.size + 4,0,none⟩) x.cells.length x.cells.length) else (ψ C x.cells.length cc)),(bif b2 then (ψ (some ⟨w.1.size + 5,0,none⟩) 2 2) else (ψ (some ⟨b,off,none⟩) 2 sc)),O U x.count]) 94 (Af truV x.trusts).toArray 118 (Af ceV x.cells).toArray 91 #[O U x.s0.count,(ψ B0 x.s0.trusts.length k0),O U x.s0.mac,(ψ C0 x.s0.cells.length m0),O U x.s1.count,(ψ B1 x.s1.trusts.length k1),O U x.s1.mac,(ψ C1 x.s1.cells.length m1)] D u -> Below w.1.size w u:=fun h=>HK2.out.1.trans (h.mid.below HK2.out.1.size)
  refine ⟨fun D u hD hd hu=>?_,fun D u hD hd hu=>?_,fun D u hD hd hu=>?_,fun D u hD hd hu=>?_,fun D u hD hd hu=>?_,fun D u hD hd hu=>?_,fun D u hD hd hu=>?_,fun D u hD hd hu=>?_,fun D u hD hd hu=>?_,trivial⟩
  ·obtain ⟨b1,b2,hc⟩:=hu.at1 hD
   exact Cf ((hc.cell 2).trans rfl) rfl rfl underlying27 ⟨rfl,hu.load1⟩
  ·have dl:=hd { on:=1,ground:=Ground.data } (by simp) rfl rfl
   have hz:=(hu.size2 hD).trans HS2.out
   exact As ((TB.out u (BW hu)).mono fun e w' ⟨he,hc,hb,hs⟩=>⟨_,he.trans (by rw [hz];rfl),rfl,hu.call2 hD dl hb hs hc⟩) rfl rfl rfl rfl (by kernel_rfl)
  ·obtain ⟨b1,b2,hc⟩:=hu.at4 hD
   exact Cf ((hc.cell 3).trans rfl) rfl rfl underlying28 ⟨rfl,hu.load4⟩
  ·have dl:=hd { on:=4,ground:=Ground.data } (by simp) rfl rfl
   have dc:=hd { on:=2,ground:=Ground.chain } (by simp) rfl rfl
   have hz:=(hu.size5 hD dc).trans (congrArg (· + 1) HS2.out)
   exact As ((CB.out u (BW hu)).mono fun e w' ⟨he,hc,hb,hs⟩=>⟨_,he.trans (by rw [hz];rfl),rfl,hu.call5 hD dl dc hb hs hc⟩) rfl rfl rfl rfl (by kernel_rfl)
  ·obtain ⟨b1,b2,hc⟩:=hu.at7 hD
   exact Cf ((hc.cell 4).trans rfl) rfl rfl underlying29 ⟨rfl,hu.load7⟩
  ·have dl:=hd { on:=7,ground:=Ground.data } (by simp) rfl rfl
   have dc:=hd { on:=5,ground:=Ground.chain } (by simp) rfl rfl
   have hz:=(hu.size8 hD dc).trans (congrArg (· + 2) HS2.out)
   exact As ((SB.out u (BW hu)).mono fun e w' ⟨he,hc,hb,hs⟩=>⟨_,he.trans (by rw [hz];rfl),rfl,hu.call8 hD dl dc hb hs hc⟩) rfl rfl rfl rfl (by kernel_rfl)
  ·have dc:=hd { on:=2,ground:=Ground.data } (by simp) rfl rfl
   exact Cp hu.cur (by simp) rfl rfl rfl (by kernel_rfl) (fun w' hc hg hn=>⟨rfl,hu.store10 dc (by have:=HS2.out;omega) hn hg hc⟩)
  ·have dc:=hd { on:=5,ground:=Ground.data } (by simp) rfl rfl
   exact Cp hu.cur (by simp) rfl rfl rfl (by kernel_rfl) (fun w' hc hg hn=>⟨rfl,hu.store12 dc (by have:=HS2.out;omega) hn hg hc⟩)
  ·have dc:=hd { on:=8,ground:=Ground.data } (by simp) rfl rfl
   exact Cp hu.cur (by simp) rfl rfl rfl (by kernel_rfl) (fun w' hc hg hn=>⟨rfl,hu.store14 dc (by have:=HS2.out;omega) hn hg hc⟩)
 intro D w3 hD hu
 obtain ⟨hx0,hx1,hx2,hxp,hs3,hmid⟩:=hu.done (hD 2 (by simp) rfl) (hD 5 (by simp) rfl) (hD 8 (by simp) rfl) (hD 10 (by simp) rfl) (hD 12 (by simp) rfl) (hD 14 (by simp) rfl)
 have hs3:w3.1.size = w.1.size + 6:=by rw [hs3,HS2.out]
 rw [HS2.out] at hx0 hx1 hx2
 have k3:Kept w [(w.1.size + 5,91,#[O U x.s0.count,(ψ B0 x.s0.trusts.length k0),O U x.s0.mac,(ψ C0 x.s0.cells.length m0),O U x.s1.count,(ψ B1 x.s1.trusts.length k1),O U x.s1.mac,(ψ C1 x.s1.cells.length m1)]),(w.1.size + 4,118,(Af ceV x.cells).toArray),(w.1.size + 3,94,(Af truV x.trusts).toArray),(w.1.size + 2,2,(x.counts.map (Value.int U)).toArray),(w.1.size + 1,31,#[O U 0,ψ none 0 0,ψ none 0 0,ψ none 0 0,ψ none 0 0,O U 0]),(w.1.size,31,#[O U x.key,(ψ (some ⟨w.1.size + 2,0,none⟩) x.counts.length x.counts.length),(ψ (some ⟨w.1.size + 3,0,none⟩) x.trusts.length x.trusts.length),(ψ (some ⟨w.1.size + 4,0,none⟩) x.cells.length x.cells.length),(ψ (some ⟨w.1.size + 5,0,none⟩) 2 2),O U x.count])] w3:=by
  have hb:=HK2.out.1.trans (hmid.below HK2.out.1.size)
  have m1:Aa w3 (w.1.size + 1) 31 #[O U 0,ψ none 0 0,ψ none 0 0,ψ none 0 0,ψ none 0 0,O U 0]:=(hmid.2.2.2.2 _ (by have:=HS2.out;omega) (.inr (by omega))).trans (HK2.out.at_ (p:=w.1.size + 1) (t:=31) (cs:=#[O U 0,ψ none 0 0,ψ none 0 0,ψ none 0 0,ψ none 0 0,O U 0]) (by simp))
  have m2:Aa w3 (w.1.size + 2) 2 (x.counts.map (Value.int U)).toArray:=(hmid.2.2.2.2 _ (by have:=HS2.out;omega) (.inr (by omega))).trans (HK2.out.at_ (p:=w.1.size + 2) (t:=2) (cs:=(x.counts.map (Value.int U)).toArray) (by simp))
  exact (((((((Kept.of_below hb).more (lr _) hxp).more (by omega) m1).more (by omega) m2).more (by omega) hx0).more (by omega) hx1).more (by omega) hx2)
 clear hu hD hx0 hx1 hx2 hxp hmid HK2 HS2 g1 g2 g4 g5 g7 g8 g10 g12 g14 hγ TB CB SB
 obtain ⟨X0,Y0,X1,Y1,X2,Y2,X3,Y3,X4,Y4,X5,Y5,-⟩:=k3.rd
 have K3:=hid k3
 have S3:=hid hs3
 clear k3 hs3
 go_wp2_with fail
 clear X0 Y0 X1 Y1 X2 Y2 X3 Y3 X4 Y4 X5 Y5
 go_loopw [26] (fun i wr=>(i = O U 0 /\ Kept w [(w.1.size + 5,91,#[O U x.s0.count,(ψ B0 x.s0.trusts.length k0),O U x.s0.mac,(ψ C0 x.s0.cells.length m0),O U x.s1.count,(ψ B1 x.s1.trusts.length k1),O U x.s1.mac,(ψ C1 x.s1.cells.length m1)]),(w.1.size + 4,118,(Af ceV x.cells).toArray),(w.1.size + 3,94,(Af truV x.trusts).toArray),(w.1.size + 2,2,(x.counts.map (Value.int U)).toArray),(w.1.size + 1,31,#[O U 0,ψ none 0 0,ψ none 0 0,ψ none 0 0,ψ none 0 0,O U 0]),(w.1.size,31,#[O U x.key,(ψ (some ⟨w.1.size + 2,0,none⟩) x.counts.length x.counts.length),(ψ (some ⟨w.1.size + 3,0,none⟩) x.trusts.length x.trusts.length),(ψ (some ⟨w.1.size + 4,0,none⟩) x.cells.length x.cells.length),(ψ (some ⟨w.1.size + 5,0,none⟩) 2 2),O U x.count])] wr /\ wr.1.size = w.1.size + 6) \/ (i = O U 1 /\ Kept w [(w.1.size + 7,118,(Af ceV x.s0.cells).toArray),(w.1.size + 6,94,(Af truV x.s0.trusts).toArray),(w.1.size + 5,91,#[O U x.s0.count,(ψ (some ⟨w.1.size + 6,0,none⟩) x.s0.trusts.length x.s0.trusts.length),O U x.s0.mac,(ψ (some ⟨w.1.size + 7,0,none⟩) x.s0.cells.length x.s0.cells.length),O U x.s1.count,(ψ B1 x.s1.trusts.length k1),O U x.s1.mac,(ψ C1 x.s1.cells.length m1)]),(w.1.size + 4,118,(Af ceV x.cells).toArray),(w.1.size + 3,94,(Af truV x.trusts).toArray),(w.1.size + 2,2,(x.counts.map (Value.int U)).toArray),(w.1.size + 1,31,#[O U 0,ψ none 0 0,ψ none 0 0,ψ none 0 0,ψ none 0 0,O U 0]),(w.1.size,31,#[O U x.key,(ψ (some ⟨w.1.size + 2,0,none⟩) x.counts.length x.counts.length),(ψ (some ⟨w.1.size + 3,0,none⟩) x.trusts.length x.trusts.length),(ψ (some ⟨w.1.size + 4,0,none⟩) x.cells.length x.cells.length),(ψ (some ⟨w.1.size + 5,0,none⟩) 2 2),O U x.count])] wr /\ wr.1.size = w.1.size + 8) \/ (i = O U 2 /\ Kept w [(w.1.size + 9,118,(Af ceV x.s1.cells).toArray),(w.1.size + 8,94,(Af truV x.s1.trusts).toArray),(w.1.size + 7,118,(Af ceV x.s0.cells).toArray),(w.1.size + 6,94,(Af truV x.s0.trusts).toArray),(w.1.size + 5,91,#[O U x.s0.count,(ψ (some ⟨w.1.size + 6,0,none⟩) x.s0.trusts.length x.s0.trusts.length),O U x.s0.mac,(ψ (some ⟨w.1.size + 7,0,none⟩) x.s0.cells.length x.s0.cells.length),O U x.s1.count,(ψ (some ⟨w.1.size + 8,0,none⟩) x.s1.trusts.length x.s1.trusts.length),O U x.s1.mac,(ψ (some ⟨w.1.size + 9,0,none⟩) x.s1.cells.length x.s1.cells.length)]),(w.1.size + 4,118,(Af ceV x.cells).toArray),(w.1.size + 3,94,(Af truV x.trusts).toArray),(w.1.size + 2,2,(x.counts.map (Value.int U)).toArray),(w.1.size + 1,31,#[O U 0,ψ none 0 0,ψ none 0 0,ψ none 0 0,ψ none 0 0,O U 0]),(w.1.size,31,#[O U x.key,(ψ (some ⟨w.1.size + 2,0,none⟩) x.counts.length x.counts.length),(ψ (some ⟨w.1.size + 3,0,none⟩) x.trusts.length x.trusts.length),(ψ (some ⟨w.1.size + 4,0,none⟩) x.cells.length x.cells.length),(ψ (some ⟨w.1.size + 5,0,none⟩) 2 2),O U x.count])] wr /\ wr.1.size = w.1.size + 10)) (fun i _=>2 - (intOf i).toNat)
 case atStart=>exact .inl ⟨rfl,K3.out,S3.out⟩
 case round=>
  clear K3 S3
  rcases hrel with ⟨rfl,hk,hs⟩ | ⟨rfl,hk,hs⟩ | ⟨rfl,hk,hs⟩
  ·obtain ⟨X0,Y0,X1,Y1,X2,Y2,X3,Y3,X4,Y4,X5,Y5,-⟩:=hk.rd
   have HK2:=hid hk
   have HS2:=hid hs
   go_upto_region 7 with fail
   refine Ao [false,false,false,true,false,false,true,true,false,true,false,true,true,true,false,false,true,true,false,true] (ShV [(3,(.pointer (some ⟨w.1.size + 5,0,none⟩))),(6,(ψ B0 x.s0.trusts.length k0)),(7,(ψ (some ⟨w.1.size + 6,0,none⟩) x.s0.trusts.length x.s0.trusts.length)),(9,(.pointer (some ⟨w.1.size + 5,0,none⟩))),(11,(ψ C0 x.s0.cells.length m0)),(12,(ψ (some ⟨w.1.size + 7,0,none⟩) x.s0.cells.length x.s0.cells.length)),(13,(.pointer (some ⟨w.1.size + 5,0,none⟩))),(17,(.pointer (some ⟨w.1.size + 5,0,none⟩)))]) (fun D _ u=>Dup2 wr (w.1.size + 5) 91 (fun b0 b1=>#[O U x.s0.count,(bif b0 then (ψ (some ⟨w.1.size + 6,0,none⟩) x.s0.trusts.length x.s0.trusts.length) else (ψ B0 x.s0.trusts.length k0)),O U x.s0.mac,(bif b1 then (ψ (some ⟨w.1.size + 7,0,none⟩) x.s0.cells.length x.s0.cells.length) else (ψ C0 x.s0.cells.length m0)),O U x.s1.count,(ψ B1 x.s1.trusts.length k1),O U x.s1.mac,(ψ C1 x.s1.cells.length m1)]) 94 (Af truV x.s0.trusts).toArray 118 (Af ceV x.s0.cells).toArray D u) (by kernel_rfl) (by kernel_rfl) (fun γ=>by kernel_rfl) (fun D γ γ' w _ h=>h) (ShV.inh _) (fun γ=>Dup2.start (hk.at_ (p:=w.1.size + 5) (t:=91) (cs:=#[O U x.s0.count,(ψ B0 x.s0.trusts.length k0),O U x.s0.mac,(ψ C0 x.s0.cells.length m0),O U x.s1.count,(ψ B1 x.s1.trusts.length k1),O U x.s1.mac,(ψ C1 x.s1.cells.length m1)]) (by simp))) (fun γ hγ=>?_)
   clear hk hs X0 Y0 X1 Y1 X2 Y2 X3 Y3 X4 Y4 X5 Y5
   have g3:γ 3 = (.pointer (some ⟨w.1.size + 5,0,none⟩)):=hγ 3 rfl
   have g9:γ 9 = (.pointer (some ⟨w.1.size + 5,0,none⟩)):=hγ 9 rfl
   have g13:γ 13 = (.pointer (some ⟨w.1.size + 5,0,none⟩)):=hγ 13 rfl
   have g17:γ 17 = (.pointer (some ⟨w.1.size + 5,0,none⟩)):=hγ 17 rfl
   have g6:γ 6 = (ψ B0 x.s0.trusts.length k0):=hγ 6 rfl
   have g7:γ 7 = (ψ (some ⟨w.1.size + 6,0,none⟩) x.s0.trusts.length x.s0.trusts.length):=hγ 7 rfl
   have g11:γ 11 = (ψ C0 x.s0.cells.length m0):=hγ 11 rfl
   have g12:γ 12 = (ψ (some ⟨w.1.size + 7,0,none⟩) x.s0.cells.length x.s0.cells.length):=hγ 12 rfl
   have g16:γ 16 = undef:=hγ 16 rfl
   have g19:γ 19 = undef:=hγ 19 rfl
   apply Exists.intro
   refine ⟨fun D=>?_,?_,?_⟩
   ·simp only [AP,cond_true,cond_false,Nat.reduceAdd,g3,g6,g7,g9,g11,g12,g13,g16,g17,g19]
    iterate 20 (first
     | go_big_quiet_skip
     | (go_big_quiet_want
        go_big_quiet_op
        first
         | go_big_quiet_on
         | (apply Exists.intro
            refine ⟨fun u hu=>?_,?_⟩
            ·first
               | with_reducible rfl
               | (have hk9:=hu.mid;exact absurd hk9 (by simp);go_simp;first | done | with_reducible rfl)
            go_big_quiet_on)))
    exact wpQuiet_nil rfl
   ·simp only [AY,Nat.reduceAdd]
    have BW:∀ {D:Nat -> Bool} {u:World},Dup2 wr (w.1.size + 5) 91 (fun b0 b1=>#[O U x.s0.count,(bif b0 then (ψ (some ⟨w.1.size + 6,0,none⟩) x.s0.trusts.length x.s0.trusts.length) else (ψ B0 x.s0.trusts.length k0)),O U x.s0.mac,(bif b1 then (ψ (some ⟨w.1.size + 7,0,none⟩) x.s0.cells.length x.s0.cells.length) else (ψ C0 x.s0.cells.length m0)),O U x.s1.count,(ψ B1 x.s1.trusts.length k1),O U x.s1.mac,(ψ C1 x.s1.cells.length m1)]) 94 (Af truV x.s0.trusts).toArray 118 (Af ceV x.s0.cells).toArray D u -> Below w.1.size w u:=fun h=>HK2.out.1.trans (h.mid.below (by have:=HS2.out;omega) |>.mono (by omega))
    refine ⟨fun D u hD hd hu=>?_,fun D u hD hd hu=>?_,fun D u hD hd hu=>?_,fun D u hD hd hu=>?_,fun D u hD hd hu=>?_,fun D u hD hd hu=>?_,fun D u hD hd hu=>?_,fun D u hD hd hu=>?_,fun D u hD hd hu=>?_,fun D u hD hd hu=>?_,trivial⟩
    ·exact Bj rfl rfl ⟨rfl,hu.skip 3 (by decide) (by decide) (by decide) (by decide) (by decide) (by decide)⟩
    ·obtain ⟨b1,hc⟩:=hu.at6 hD
     exact Cf ((hc.cell 1).trans rfl) rfl rfl underlying27 ⟨rfl,hu.load6⟩
    ·have dl:=hd { on:=6,ground:=Ground.data } (by simp) rfl rfl
     have hz:=(hu.size7 hD).trans HS2.out
     exact As ((T0.out u (BW hu)).mono fun e w' ⟨he,hc,hb,hs⟩=>⟨_,he.trans (by rw [hz];rfl),rfl,hu.call7 hD dl hb hs hc⟩) rfl rfl rfl rfl (by kernel_rfl)
    ·exact Bj rfl rfl ⟨rfl,hu.skip 9 (by decide) (by decide) (by decide) (by decide) (by decide) (by decide)⟩
    ·obtain ⟨b1,hc⟩:=hu.at11 hD
     exact Cf ((hc.cell 3).trans rfl) rfl rfl underlying28 ⟨rfl,hu.load11⟩
    ·have dl:=hd { on:=11,ground:=Ground.data } (by simp) rfl rfl
     have dc:=hd { on:=7,ground:=Ground.chain } (by simp) rfl rfl
     have hz:=(hu.size12 hD dc).trans (congrArg (· + 1) HS2.out)
     exact As ((C0'.out u (BW hu)).mono fun e w' ⟨he,hc,hb,hs⟩=>⟨_,he.trans (by rw [hz];rfl),rfl,hu.call12 hD dl dc hb hs hc⟩) rfl rfl rfl rfl (by kernel_rfl)
    ·exact Bj rfl rfl ⟨rfl,hu.skip 13 (by decide) (by decide) (by decide) (by decide) (by decide) (by decide)⟩
    ·have dc:=hd { on:=7,ground:=Ground.data } (by simp) rfl rfl
     exact Cp hu.cur (by simp) rfl rfl rfl (by kernel_rfl) (fun w' hc hg hn=>⟨rfl,hu.store16 dc (by have:=HS2.out;omega) hn hg hc⟩)
    ·exact Bj rfl rfl ⟨rfl,hu.skip 17 (by decide) (by decide) (by decide) (by decide) (by decide) (by decide)⟩
    ·have dc:=hd { on:=12,ground:=Ground.data } (by simp) rfl rfl
     exact Cp hu.cur (by simp) rfl rfl rfl (by kernel_rfl) (fun w' hc hg hn=>⟨rfl,hu.store19 dc (by have:=HS2.out;omega) hn hg hc⟩)
   intro D w3 hD hu
   obtain ⟨hx0,hx1,hxp,hs3,hmid⟩:=hu.done (hD 7 (by simp) rfl) (hD 12 (by simp) rfl) (hD 16 (by simp) rfl) (hD 19 (by simp) rfl)
   rw [HS2.out] at hx0 hx1
   have k9:Kept w [(w.1.size + 7,118,(Af ceV x.s0.cells).toArray),(w.1.size + 6,94,(Af truV x.s0.trusts).toArray),(w.1.size + 5,91,#[O U x.s0.count,(ψ (some ⟨w.1.size + 6,0,none⟩) x.s0.trusts.length x.s0.trusts.length),O U x.s0.mac,(ψ (some ⟨w.1.size + 7,0,none⟩) x.s0.cells.length x.s0.cells.length),O U x.s1.count,(ψ B1 x.s1.trusts.length k1),O U x.s1.mac,(ψ C1 x.s1.cells.length m1)]),(w.1.size + 4,118,(Af ceV x.cells).toArray),(w.1.size + 3,94,(Af truV x.trusts).toArray),(w.1.size + 2,2,(x.counts.map (Value.int U)).toArray),(w.1.size + 1,31,#[O U 0,ψ none 0 0,ψ none 0 0,ψ none 0 0,ψ none 0 0,O U 0]),(w.1.size,31,#[O U x.key,(ψ (some ⟨w.1.size + 2,0,none⟩) x.counts.length x.counts.length),(ψ (some ⟨w.1.size + 3,0,none⟩) x.trusts.length x.trusts.length),(ψ (some ⟨w.1.size + 4,0,none⟩) x.cells.length x.cells.length),(ψ (some ⟨w.1.size + 5,0,none⟩) 2 2),O U x.count])] w3:=by
    have hb:=HK2.out.1.trans (hmid.below (by have:=HS2.out;omega) |>.mono (by omega))
    have mm:∀ k t c,(w.1.size + k,t,c) ∈ ([(w.1.size + 5,91,#[O U x.s0.count,(ψ B0 x.s0.trusts.length k0),O U x.s0.mac,(ψ C0 x.s0.cells.length m0),O U x.s1.count,(ψ B1 x.s1.trusts.length k1),O U x.s1.mac,(ψ C1 x.s1.cells.length m1)]),(w.1.size + 4,118,(Af ceV x.cells).toArray),(w.1.size + 3,94,(Af truV x.trusts).toArray),(w.1.size + 2,2,(x.counts.map (Value.int U)).toArray),(w.1.size + 1,31,#[O U 0,ψ none 0 0,ψ none 0 0,ψ none 0 0,ψ none 0 0,O U 0]),(w.1.size,31,#[O U x.key,(ψ (some ⟨w.1.size + 2,0,none⟩) x.counts.length x.counts.length),(ψ (some ⟨w.1.size + 3,0,none⟩) x.trusts.length x.trusts.length),(ψ (some ⟨w.1.size + 4,0,none⟩) x.cells.length x.cells.length),(ψ (some ⟨w.1.size + 5,0,none⟩) 2 2),O U x.count])]:List Box) -> k ≠ 5 -> Aa w3 (w.1.size + k) t c:=fun k t c hm hk5=>(hmid.2.2.2.2 _ (by have:=(HK2.out.2 _ hm).2.lt;exact this) (by omega)).trans (HK2.out.2 _ hm).2
    exact (((((((((Kept.of_below hb).more (lr _) (mm 0 _ _ (by simp) (by omega))).more (by omega) (mm 1 _ _ (by simp) (by omega))).more (by omega) (mm 2 _ _ (by simp) (by omega))).more (by omega) (mm 3 _ _ (by simp) (by omega))).more (by omega) (mm 4 _ _ (by simp) (by omega))).more (by omega) hxp).more (by omega) hx0).more (by omega) hx1)
   have HS9:=hid (show w3.1.size = w.1.size + 8 by rw [hs3,HS2.out])
   have HK9:=hid k9
   clear hu hD hx0 hx1 hxp hs3 hmid HK2 HS2 g3 g9 g13 g17 g6 g7 g11 g12 g16 g19 hγ k9
   go_wp2_with fail
   go_roundw
   case rel=>exact .inr (.inl ⟨by go_num,HK9.out,HS9.out⟩)
   case measure=>simp [intOf]
  ·obtain ⟨X0,Y0,X1,Y1,X2,Y2,X3,Y3,X4,Y4,X5,Y5,X6,Y6,X7,Y7,-⟩:=hk.rd
   have HK2:=hid hk
   have HS2:=hid hs
   go_upto_region 7 with fail
   refine Ao [false,false,false,true,false,false,true,true,false,true,false,true,true,true,false,false,true,true,false,true] (ShV [(3,(.pointer (some ⟨w.1.size + 5,4,none⟩))),(6,(ψ B1 x.s1.trusts.length k1)),(7,(ψ (some ⟨w.1.size + 8,0,none⟩) x.s1.trusts.length x.s1.trusts.length)),(9,(.pointer (some ⟨w.1.size + 5,4,none⟩))),(11,(ψ C1 x.s1.cells.length m1)),(12,(ψ (some ⟨w.1.size + 9,0,none⟩) x.s1.cells.length x.s1.cells.length)),(13,(.pointer (some ⟨w.1.size + 5,4,none⟩))),(17,(.pointer (some ⟨w.1.size + 5,4,none⟩)))]) (fun D _ u=>Dup2 wr (w.1.size + 5) 91 (fun b0 b1=>#[O U x.s0.count,(ψ (some ⟨w.1.size + 6,0,none⟩) x.s0.trusts.length x.s0.trusts.length),O U x.s0.mac,(ψ (some ⟨w.1.size + 7,0,none⟩) x.s0.cells.length x.s0.cells.length),O U x.s1.count,(bif b0 then (ψ (some ⟨w.1.size + 8,0,none⟩) x.s1.trusts.length x.s1.trusts.length) else (ψ B1 x.s1.trusts.length k1)),O U x.s1.mac,(bif b1 then (ψ (some ⟨w.1.size + 9,0,none⟩) x.s1.cells.length x.s1.cells.length) else (ψ C1 x.s1.cells.length m1))]) 94 (Af truV x.s1.trusts).toArray 118 (Af ceV x.s1.cells).toArray D u) (by kernel_rfl) (by kernel_rfl) (fun γ=>by kernel_rfl) (fun D γ γ' w _ h=>h) (ShV.inh _) (fun γ=>Dup2.start (hk.at_ (p:=w.1.size + 5) (t:=91) (cs:=#[O U x.s0.count,(ψ (some ⟨w.1.size + 6,0,none⟩) x.s0.trusts.length x.s0.trusts.length),O U x.s0.mac,(ψ (some ⟨w.1.size + 7,0,none⟩) x.s0.cells.length x.s0.cells.length),O U x.s1.count,(ψ B1 x.s1.trusts.length k1),O U x.s1.mac,(ψ C1 x.s1.cells.length m1)]) (by simp))) (fun γ hγ=>?_)
   clear hk hs X0 Y0 X1 Y1 X2 Y2 X3 Y3 X4 Y4 X5 Y5 X6 Y6 X7 Y7
   have g3:γ 3 = (.pointer (some ⟨w.1.size + 5,4,none⟩)):=hγ 3 rfl
   have g9:γ 9 = (.pointer (some ⟨w.1.size + 5,4,none⟩)):=hγ 9 rfl
   have g13:γ 13 = (.pointer (some ⟨w.1.size + 5,4,none⟩)):=hγ 13 rfl
   have g17:γ 17 = (.pointer (some ⟨w.1.size + 5,4,none⟩)):=hγ 17 rfl
   have g6:γ 6 = (ψ B1 x.s1.trusts.length k1):=hγ 6 rfl
   have g7:γ 7 = (ψ (some ⟨w.1.size + 8,0,none⟩) x.s1.trusts.length x.s1.trusts.length):=hγ 7 rfl
   have g11:γ 11 = (ψ C1 x.s1.cells.length m1):=hγ 11 rfl
   have g12:γ 12 = (ψ (some ⟨w.1.size + 9,0,none⟩) x.s1.cells.length x.s1.cells.length):=hγ 12 rfl
   have g16:γ 16 = undef:=hγ 16 rfl
   have g19:γ 19 = undef:=hγ 19 rfl
   apply Exists.intro
   refine ⟨fun D=>?_,?_,?_⟩
   ·simp only [AP,cond_true,cond_false,Nat.reduceAdd,g3,g6,g7,g9,g11,g12,g13,g16,g17,g19]
    iterate 20 (first
     | go_big_quiet_skip
     | (go_big_quiet_want
        go_big_quiet_op
        first
         | go_big_quiet_on
         | (apply Exists.intro
            refine ⟨fun u hu=>?_,?_⟩
            ·first
               | with_reducible rfl
               | (have hk9:=hu.mid;exact absurd hk9 (by simp);go_simp;first | done | with_reducible rfl)
            go_big_quiet_on)))
    exact wpQuiet_nil rfl
   ·simp only [AY,Nat.reduceAdd]
    have BW:∀ {D:Nat -> Bool} {u:World},Dup2 wr (w.1.size + 5) 91 (fun b0 b1=>#[O U x.s0.count,(ψ (some ⟨w.1.size + 6,0,none⟩) x.s0.trusts.length x.s0.trusts.length),O U x.s0.mac,(ψ (some ⟨w.1.size + 7,0,none⟩) x.s0.cells.length x.s0.cells.length),O U x.s1.count,(bif b0 then (ψ (some ⟨w.1.size + 8,0,none⟩) x.s1.trusts.length x.s1.trusts.length) else (ψ B1 x.s1.trusts.length k1)),O U x.s1.mac,(bif b1 then (ψ (some ⟨w.1.size + 9,0,none⟩) x.s1.cells.length x.s1.cells.length) else (ψ C1 x.s1.cells.length m1))]) 94 (Af truV x.s1.trusts).toArray 118 (Af ceV x.s1.cells).toArray D u -> Below w.1.size w u:=fun h=>HK2.out.1.trans (h.mid.below (by have:=HS2.out;omega) |>.mono (by omega))
    refine ⟨fun D u hD hd hu=>?_,fun D u hD hd hu=>?_,fun D u hD hd hu=>?_,fun D u hD hd hu=>?_,fun D u hD hd hu=>?_,fun D u hD hd hu=>?_,fun D u hD hd hu=>?_,fun D u hD hd hu=>?_,fun D u hD hd hu=>?_,fun D u hD hd hu=>?_,trivial⟩
    ·exact Bj rfl rfl ⟨rfl,hu.skip 3 (by decide) (by decide) (by decide) (by decide) (by decide) (by decide)⟩
    ·obtain ⟨b1,hc⟩:=hu.at6 hD
     exact Cf ((hc.cell 5).trans rfl) rfl rfl underlying27 ⟨rfl,hu.load6⟩
    ·have dl:=hd { on:=6,ground:=Ground.data } (by simp) rfl rfl
     have hz:=(hu.size7 hD).trans HS2.out
     exact As ((T1.out u (BW hu)).mono fun e w' ⟨he,hc,hb,hs⟩=>⟨_,he.trans (by rw [hz];rfl),rfl,hu.call7 hD dl hb hs hc⟩) rfl rfl rfl rfl (by kernel_rfl)
    ·exact Bj rfl rfl ⟨rfl,hu.skip 9 (by decide) (by decide) (by decide) (by decide) (by decide) (by decide)⟩
    ·obtain ⟨b1,hc⟩:=hu.at11 hD
     exact Cf ((hc.cell 7).trans rfl) rfl rfl underlying28 ⟨rfl,hu.load11⟩
    ·have dl:=hd { on:=11,ground:=Ground.data } (by simp) rfl rfl
     have dc:=hd { on:=7,ground:=Ground.chain } (by simp) rfl rfl
     have hz:=(hu.size12 hD dc).trans (congrArg (· + 1) HS2.out)
     exact As ((C1'.out u (BW hu)).mono fun e w' ⟨he,hc,hb,hs⟩=>⟨_,he.trans (by rw [hz];rfl),rfl,hu.call12 hD dl dc hb hs hc⟩) rfl rfl rfl rfl (by kernel_rfl)
    ·exact Bj rfl rfl ⟨rfl,hu.skip 13 (by decide) (by decide) (by decide) (by decide) (by decide) (by decide)⟩
    ·have dc:=hd { on:=7,ground:=Ground.data } (by simp) rfl rfl
     exact Cp hu.cur (by simp) rfl rfl rfl (by kernel_rfl) (fun w' hc hg hn=>⟨rfl,hu.store16 dc (by have:=HS2.out;omega) hn hg hc⟩)
    ·exact Bj rfl rfl ⟨rfl,hu.skip 17 (by decide) (by decide) (by decide) (by decide) (by decide) (by decide)⟩
    ·have dc:=hd { on:=12,ground:=Ground.data } (by simp) rfl rfl
     exact Cp hu.cur (by simp) rfl rfl rfl (by kernel_rfl) (fun w' hc hg hn=>⟨rfl,hu.store19 dc (by have:=HS2.out;omega) hn hg hc⟩)
   intro D w3 hD hu
   obtain ⟨hx0,hx1,hxp,hs3,hmid⟩:=hu.done (hD 7 (by simp) rfl) (hD 12 (by simp) rfl) (hD 16 (by simp) rfl) (hD 19 (by simp) rfl)
   rw [HS2.out] at hx0 hx1
   have k9:Kept w [(w.1.size + 9,118,(Af ceV x.s1.cells).toArray),(w.1.size + 8,94,(Af truV x.s1.trusts).toArray),(w.1.size + 7,118,(Af ceV x.s0.cells).toArray),(w.1.size + 6,94,(Af truV x.s0.trusts).toArray),(w.1.size + 5,91,#[O U x.s0.count,(ψ (some ⟨w.1.size + 6,0,none⟩) x.s0.trusts.length x.s0.trusts.length),O U x.s0.mac,(ψ (some ⟨w.1.size + 7,0,none⟩) x.s0.cells.length x.s0.cells.length),O U x.s1.count,(ψ (some ⟨w.1.size + 8,0,none⟩) x.s1.trusts.length x.s1.trusts.length),O U x.s1.mac,(ψ (some ⟨w.1.size + 9,0,none⟩) x.s1.cells.length x.s1.cells.length)]),(w.1.size + 4,118,(Af ceV x.cells).toArray),(w.1.size + 3,94,(Af truV x.trusts).toArray),(w.1.size + 2,2,(x.counts.map (Value.int U)).toArray),(w.1.size + 1,31,#[O U 0,ψ none 0 0,ψ none 0 0,ψ none 0 0,ψ none 0 0,O U 0]),(w.1.size,31,#[O U x.key,(ψ (some ⟨w.1.size + 2,0,none⟩) x.counts.length x.counts.length),(ψ (some ⟨w.1.size + 3,0,none⟩) x.trusts.length x.trusts.length),(ψ (some ⟨w.1.size + 4,0,none⟩) x.cells.length x.cells.length),(ψ (some ⟨w.1.size + 5,0,none⟩) 2 2),O U x.count])] w3:=by
    have hb:=HK2.out.1.trans (hmid.below (by have:=HS2.out;omega) |>.mono (by omega))
    have mm:∀ k t c,(w.1.size + k,t,c) ∈ ([(w.1.size + 7,118,(Af ceV x.s0.cells).toArray),(w.1.size + 6,94,(Af truV x.s0.trusts).toArray),(w.1.size + 5,91,#[O U x.s0.count,(ψ (some ⟨w.1.size + 6,0,none⟩) x.s0.trusts.length x.s0.trusts.length),O U x.s0.mac,(ψ (some ⟨w.1.size + 7,0,none⟩) x.s0.cells.length x.s0.cells.length),O U x.s1.count,(ψ B1 x.s1.trusts.length k1),O U x.s1.mac,(ψ C1 x.s1.cells.length m1)]),(w.1.size + 4,118,(Af ceV x.cells).toArray),(w.1.size + 3,94,(Af truV x.trusts).toArray),(w.1.size + 2,2,(x.counts.map (Value.int U)).toArray),(w.1.size + 1,31,#[O U 0,ψ none 0 0,ψ none 0 0,ψ none 0 0,ψ none 0 0,O U 0]),(w.1.size,31,#[O U x.key,(ψ (some ⟨w.1.size + 2,0,none⟩) x.counts.length x.counts.length),(ψ (some ⟨w.1.size + 3,0,none⟩) x.trusts.length x.trusts.length),(ψ (some ⟨w.1.size + 4,0,none⟩) x.cells.length x.cells.length),(ψ (some ⟨w.1.size + 5,0,none⟩) 2 2),O U x.count])]:List Box) -> k ≠ 5 -> Aa w3 (w.1.size + k) t c:=fun k t c hm hk5=>(hmid.2.2.2.2 _ (by have:=(HK2.out.2 _ hm).2.lt;exact this) (by omega)).trans (HK2.out.2 _ hm).2
    exact (((((((((((Kept.of_below hb).more (lr _) (mm 0 _ _ (by simp) (by omega))).more (by omega) (mm 1 _ _ (by simp) (by omega))).more (by omega) (mm 2 _ _ (by simp) (by omega))).more (by omega) (mm 3 _ _ (by simp) (by omega))).more (by omega) (mm 4 _ _ (by simp) (by omega))).more (by omega) hxp).more (by omega) (mm 6 _ _ (by simp) (by omega))).more (by omega) (mm 7 _ _ (by simp) (by omega))).more (by omega) hx0).more (by omega) hx1)
   have HS9:=hid (show w3.1.size = w.1.size + 10 by rw [hs3,HS2.out])
   have HK9:=hid k9
   clear hu hD hx0 hx1 hxp hs3 hmid HK2 HS2 g3 g9 g13 g17 g6 g7 g11 g12 g16 g19 hγ k9
   go_wp2_with fail
   go_roundw
   case rel=>exact .inr (.inr ⟨by go_num,HK9.out,HS9.out⟩)
   case measure=>simp [intOf]
  ·obtain ⟨X0,Y0,X1,Y1,X2,Y2,X3,Y3,X4,Y4,X5,Y5,X6,Y6,X7,Y7,X8,Y8,X9,Y9,-⟩:=hk.rd
   clear T0 C0' T1 C1'
   have HK:=hid hk
   have HS:=hid hs
   clear hk hs
   go_wp2_with fail
   obtain ⟨w9,e9,⟨d0,d1,d2,d3,d4,d5⟩,hb9,hg9⟩:=AN (w:=w) (x0:=O U x.key) (x1:=(ψ (some ⟨w.1.size + 2,0,none⟩) x.counts.length x.counts.length)) (x2:=(ψ (some ⟨w.1.size + 3,0,none⟩) x.trusts.length x.trusts.length)) (x3:=(ψ (some ⟨w.1.size + 4,0,none⟩) x.cells.length x.cells.length)) (x4:=(ψ (some ⟨w.1.size + 5,0,none⟩) 2 2)) (x5:=O U x.count) (HK.out.at_ (p:=w.1.size + 1) (t:=31) (cs:=#[O U 0,ψ none 0 0,ψ none 0 0,ψ none 0 0,ψ none 0 0,O U 0]) (by simp)) HK.out.1 (by omega)
   rw [e9]
   have hk9:∀ k t c,k ≠ 1 -> (w.1.size + k,t,c) ∈ ([(w.1.size + 9,118,(Af ceV x.s1.cells).toArray),(w.1.size + 8,94,(Af truV x.s1.trusts).toArray),(w.1.size + 7,118,(Af ceV x.s0.cells).toArray),(w.1.size + 6,94,(Af truV x.s0.trusts).toArray),(w.1.size + 5,91,#[O U x.s0.count,(ψ (some ⟨w.1.size + 6,0,none⟩) x.s0.trusts.length x.s0.trusts.length),O U x.s0.mac,(ψ (some ⟨w.1.size + 7,0,none⟩) x.s0.cells.length x.s0.cells.length),O U x.s1.count,(ψ (some ⟨w.1.size + 8,0,none⟩) x.s1.trusts.length x.s1.trusts.length),O U x.s1.mac,(ψ (some ⟨w.1.size + 9,0,none⟩) x.s1.cells.length x.s1.cells.length)]),(w.1.size + 4,118,(Af ceV x.cells).toArray),(w.1.size + 3,94,(Af truV x.trusts).toArray),(w.1.size + 2,2,(x.counts.map (Value.int U)).toArray),(w.1.size + 1,31,#[O U 0,ψ none 0 0,ψ none 0 0,ψ none 0 0,ψ none 0 0,O U 0]),(w.1.size,31,#[O U x.key,(ψ (some ⟨w.1.size + 2,0,none⟩) x.counts.length x.counts.length),(ψ (some ⟨w.1.size + 3,0,none⟩) x.trusts.length x.trusts.length),(ψ (some ⟨w.1.size + 4,0,none⟩) x.cells.length x.cells.length),(ψ (some ⟨w.1.size + 5,0,none⟩) 2 2),O U x.count])]:List Box) -> Aa w9 (w.1.size + k) t c:=fun k t c hk hm=>(HK.out.2 _ hm).2.grown hg9 (by intro e;injection e;omega)
   obtain ⟨x1,x2,x3,x4,x5,x6,x7⟩:=H8.out
   have hv:VolO w9 w.1.size x (σ #[O U x.key,(ψ (some ⟨w.1.size + 2,0,none⟩) x.counts.length x.counts.length),(ψ (some ⟨w.1.size + 3,0,none⟩) x.trusts.length x.trusts.length),(ψ (some ⟨w.1.size + 4,0,none⟩) x.cells.length x.cells.length),(ψ (some ⟨w.1.size + 5,0,none⟩) 2 2),O U x.count]):=by
    refine ⟨_,_,_,_,_,_,_,_,_,_,_,_,_,_,_,rfl,BJ (hk9 2 _ _ (by omega) (by simp)) (by omega) (by simp) (by unfold maxLen;omega),BJ (hk9 3 _ _ (by omega) (by simp)) (by omega) (Ak AD) (by unfold maxLen;omega),BJ (hk9 4 _ _ (by omega) (by simp)) (by omega) (Ak Au) (by unfold maxLen;omega),by omega,hk9 5 _ _ (by omega) (by simp),
     BJ (hk9 6 _ _ (by omega) (by simp)) (by omega) (Ak AD) (by unfold maxLen;omega),BJ (hk9 7 _ _ (by omega) (by simp)) (by omega) (Ak Au) (by unfold maxLen;omega),BJ (hk9 8 _ _ (by omega) (by simp)) (by omega) (Ak AD) (by unfold maxLen;omega),BJ (hk9 9 _ _ (by omega) (by simp)) (by omega) (Ak Au) (by unfold maxLen;omega),?_⟩
    simp [Ae]
   exact bodyPost_ret (v:=σ #[O U x.key,(ψ (some ⟨w.1.size + 2,0,none⟩) x.counts.length x.counts.length),(ψ (some ⟨w.1.size + 3,0,none⟩) x.trusts.length x.trusts.length),(ψ (some ⟨w.1.size + 4,0,none⟩) x.cells.length x.cells.length),(ψ (some ⟨w.1.size + 5,0,none⟩) 2 2),O U x.count]) (by simp [results,results70,go_sem,d0,d1,d2,d3,d4,d5]) rfl ⟨_,rfl,hv,hb9⟩

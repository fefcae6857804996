import Derived.Test.YteoijmejhdocdaaGreatDoorV01
import Derived.Deep.WholeRow
import Derived.Deep.MidRow
namespace Go.Proofs.YteoijmejhdocdaaGreatDoor.Mx
open Go.RowKit
set_option linter.unusedVariables false
set_option maxRecDepth 20000
set_option maxHeartbeats 64000000
open Value renaming int → O, slice → ψ, bool → φ, agg → σ
open Ending renaming returned → τ
theorem Kept.put1 {b w:World} {L:List Box} (h:Kept b L w) (g:Nat) (t:TypeId) (cs:Array Value) (hg:w.1.size = g):Kept b ((g,t,cs) :: L) (w.alloc (.cells cs t)):=by
 subst hg;exact h.new t cs
def Rd (w:World):List Box -> Prop
 | []=>True
 | x :: L=>(∀ i,w.cell? ⟨x.1,i,none⟩ = x.2.2[i]?) /\ (∀ i,w.frozen? ⟨x.1,i,none⟩ = false) /\ Rd w L
theorem Rd.of:∀ {L:List Box} {w:World},(∀ x ∈ L,Aa w x.1 x.2.1 x.2.2) -> Rd w L
 | [],_,_=>trivial
 | x :: L,w,h=>⟨fun i=>(h x (List.mem_cons_self ..)).cell i,fun i=>(h x (List.mem_cons_self ..)).frozen i,Rd.of fun y hy=>h y (List.mem_cons_of_mem _ hy)⟩
theorem Kept.rd {b w:World} {L:List Box} (h:Kept b L w):Rd w L:=Rd.of fun x hx=>(h.2 x hx).2
def Nn (L:List Box) (k:Nat) (cs:Array Value):List Box:=L.modify k fun x=>(x.1,x.2.1,cs)
def Apart (L:List Box):Prop:=(L.map (·.1)).Nodup
theorem Kept.put {b w w':World} {L:List Box} {k p:Nat} {t:TypeId} {cs cs':Array Value} (h:Kept b L w) (hk:L[k]? = some (p,t,cs)) (ha:Apart L) (hg:w.grownBy w' (some p)) (hc:Aa w' p t cs'):Kept b (Nn L k cs') w':=by
 have hm:(p,t,cs) ∈ L:=List.mem_of_getElem? hk
 have hp:b.1.size <= p:=(h.2 _ hm).1
 refine ⟨bgb h.1 hg h.1.size hp,fun x hx=>?_⟩
 unfold Nn at hx
 obtain ⟨j,hj⟩:=List.mem_iff_getElem?.1 hx
 rw [List.getElem?_modify] at hj
 by_cases hkj:k = j
 ·subst hkj
  rw [hk] at hj
  simp only [if_true,Option.map_eq_map,Option.map_some,Option.some.injEq] at hj
  subst hj
  exact ⟨hp,hc⟩
 ·simp only [hkj,if_false,Option.map_eq_map,Option.map_id_fun',id_eq] at hj
  have hxm:=List.mem_of_getElem? hj
  refine ⟨(h.2 x hxm).1,(h.2 x hxm).2.grown hg ?_⟩
  intro e
  injection e with e
  unfold Apart at ha
  have h1:(L.map (·.1))[j]? = some x.1:=by rw [List.getElem?_map,hj];rfl
  have h2:(L.map (·.1))[k]? = some p:=by rw [List.getElem?_map,hk];rfl
  rw [<- e] at h2
  have hjl:j < (L.map (·.1)).length:=(List.getElem?_eq_some_iff.1 h1).1
  exact hkj ((List.getElem?_inj hjl ha).1 (h1.trans h2.symm)).symm
theorem OT {P:Program} {w:World} {p:Nat} {t:TypeId} {cs cs':Array Value} (hc:Aa w p t cs) (hi:(P.info? t).map (·.size) = some cs'.size) (hs:cs.size = cs'.size) (h1:cs'.all (·.oneCell') = true):
    ∃ w',(Instr.storeAt t (.pointer (some ⟨p,0,none⟩)) (σ cs')).run P w = .ok () w' /\ Aa w' p t cs' /\ w.grownBy w' (some p):=by
 refine ⟨w.setRow p cs',?_,setRow_heap w p cs cs' t (0,0) hc,⟨rfl,rfl,rfl,Nat.le_of_eq (setRow_size w p cs').symm,fun k _ hk=>setRow_other w p k cs' (fun e=>hk (by rw [e]))⟩⟩
 simp only [Instr.storeAt,Instr.sureAddr,Sem.run_bind,Sem.run_pure,Result.andThen_ok]
 exact run_storeVar_row _ _ t t cs cs' hc hi hs h1
theorem PK {P:Program} {w:World} {p:Nat} {t:TypeId} {d:TypeDesc} {cs:Array Value} (hc:Aa w p t cs) (hu:P.underlying t = some d) (hd:(match d with | .struct _ | .array _ _=>true | _=>false) = true) (hi:(P.info? t).map (·.size) = some cs.size):
    (Instr.loadAt t (.pointer (some ⟨p,0,none⟩))).run P w = .ok (σ cs) w:=by
 simp only [Instr.loadAt,Instr.sureAddr,Sem.run_bind,Sem.run_pure,Result.andThen_ok]
 exact run_loadVar_row _ _ t t cs (0,0) d hc hu hd hi
def Nv (P:Program) (f:FuncId):Bool:=match P.funcs[f]? with | some fn=>!(fn.name == "runtime.NumGoroutine") && fn.body.isSome | none=>false
theorem Qu {P:Program} {f:FuncId} {args:Array Value} {w:World} (h:Nv P f = true):(callFunc f args).run P w = .ok (.enter f args) w:=by
 unfold Nv at h
 split at h
 ·rename_i fn hf
  simp only [Bool.and_eq_true,Bool.not_eq_true'] at h
  have hb:¬ fn.body = none:=fun e=>by rw [e] at h;exact absurd h.2 (by simp)
  have hn:¬ fn.name = "runtime.NumGoroutine":=by simpa using h.1
  simp [callFunc,go_sem,hf]
  rw [if_neg hn,if_neg hb]
 ·cases h
theorem As {P:Program} {ρ:Operand -> Value} {o:Oper} {c:Call} {f:FuncId} {args:Array Value} {w:World} {K:Value -> World -> Prop} (h:Calls P f args w fun e w'=>∃ v,e = τ v /\ K v w')
    (hop:o.op = .call c) (hcal:c.callee = .value (.func f)) (hf:ρ (.func f) = .func (.func f) #[] #[]) (hargs:c.args.toList.map ρ = args.toList) (he:Nv P f = true):Bt P ((execOp ρ o).run P w) K:=by
 have e:(execOp ρ o).run P w = .ok (.enter f args) w:=by
  have ha:c.args.map ρ = args:=by
   apply Array.toList_inj.1
   rw [Array.toList_map];exact hargs
  unfold execOp
  rw [hop]
  simp only [resolve,hcal,hf,Deferred.ofValue,Sem.run_bind,Sem.run_pure,Result.andThen_ok,invoke,ha]
  simpa using Qu (w:=w) (args:=args) he
 rw [e]
 exact h
theorem AI {P:Program} {ρ:Operand -> Value} {o:Oper} {t:TypeId} {x y:Operand} {w:World} {K:Value -> World -> Prop} {p:Nat} {cs cs':Array Value}
    (hc:Aa w p t cs) (hop:o.op = .store t x y) (hx:ρ x = .pointer (some ⟨p,0,none⟩)) (hy:ρ y = σ cs') (hi:(P.info? t).map (·.size) = some cs'.size) (hs:cs.size = cs'.size) (h1:cs'.all (·.oneCell') = true)
    (h:∀ w',Aa w' p t cs' -> w.grownBy w' (some p) -> K undef w'):Bt P ((execOp ρ o).run P w) K:=by
 obtain ⟨w',e,hc',hg⟩:=OT hc hi hs h1
 have e2:(execOp ρ o).run P w = .ok .skip w':=by
  unfold execOp
  rw [hop]
  simp only [hx,hy,Sem.run_bind,e,Result.andThen_ok,Sem.run_pure]
 rw [e2]
 exact h w' hc' hg
theorem KM {P:Program} {ρ:Operand -> Value} {o:Oper} {t:TypeId} {x:Operand} {w:World} {K:Value -> World -> Prop} {p:Nat} {d:TypeDesc} {cs:Array Value}
    (hc:Aa w p t cs) (hop:o.op = .load t x) (hx:ρ x = .pointer (some ⟨p,0,none⟩)) (hu:P.underlying t = some d) (hd:(match d with | .struct _ | .array _ _=>true | _=>false) = true) (hi:(P.info? t).map (·.size) = some cs.size)
    (h:K (σ cs) w):Bt P ((execOp ρ o).run P w) K:=by
 have e2:(execOp ρ o).run P w = .ok (.value (σ cs)) w:=by
  unfold execOp
  rw [hop]
  simp only [hx,Sem.run_bind,PK hc hu hd hi,Result.andThen_ok,Sem.run_pure]
 rw [e2]
 exact h
def ShV (vs:List (Nat × Value)):Nat -> Value -> Prop:=fun i v=>v = (vs.lookup i).getD undef
theorem ShV.inh (vs:List (Nat × Value)) (i:Nat):∃ v,ShV vs i v:=⟨_,rfl⟩
abbrev Res:=Nat × Nat × TypeId × Array Value
def ResC (b:World) (L:List Box) (RS:List Res) (D:Nat -> Bool) (u:World):Prop:=
 Kept b L u /\ ∀ x ∈ RS,b.1.size <= x.2.1 /\ (∀ y ∈ L,y.1 ≠ x.2.1) /\ ∃ z,Aa u x.2.1 x.2.2.1 z /\ z.size = x.2.2.2.size /\ (D x.1 = true -> z = x.2.2.2)
namespace ResC
variable {b u v:World} {L:List Box} {RS:List Res} {D:Nat -> Bool} {k p:Nat} {t:TypeId} {V:Array Value}
theorem start (h:Kept b L u) (hr:∀ x ∈ RS,b.1.size <= x.2.1 /\ (∀ y ∈ L,y.1 ≠ x.2.1) /\ ∃ z,Aa u x.2.1 x.2.2.1 z /\ z.size = x.2.2.2.size):ResC b L RS (fun _=>false) u.drew:=
 ⟨h.drew,fun x hx=>by obtain ⟨h1,h2,z,h3,h4⟩:=hr x hx;exact ⟨h1,h2,z,h3.drew,h4,fun e=>by cases e⟩⟩
theorem below (h:ResC b L RS D u) (hb:Below u.1.size u v) (k:Nat) (hk:∀ x ∈ RS,x.1 ≠ k):ResC b L RS (setD D k) v:=
 ⟨h.1.below hb,fun x hx=>by
  obtain ⟨h1,h2,z,h3,h4,h5⟩:=h.2 x hx
  refine ⟨h1,h2,z,h3.below hb h3.lt,h4,fun e=>h5 ?_⟩
  unfold setD at e
  simpa [hk x hx] using e⟩
theorem at_ (h:ResC b L RS D u) (hm:(k,p,t,V) ∈ RS):∃ z,Aa u p t z /\ z.size = V.size:=by
 obtain ⟨_,_,z,h3,h4,_⟩:=h.2 _ hm
 exact ⟨z,h3,h4⟩
theorem stored (h:ResC b L RS D u) (hm:(k,p,t,V) ∈ RS) (hd:∀ x ∈ RS,x = (k,p,t,V) \/ (x.1 ≠ k /\ x.2.1 ≠ p)) (hg:u.grownBy v (some p)) (hc:Aa v p t V):ResC b L RS (setD D k) v:=by
 obtain ⟨m1,m2,_⟩:=h.2 _ hm
 refine ⟨h.1.grown hg m1 m2,fun x hx=>?_⟩
 obtain ⟨h1,h2,z,h3,h4,h5⟩:=h.2 x hx
 rcases hd x hx with rfl | ⟨n1,n2⟩
 ·exact ⟨h1,h2,V,hc,rfl,fun _=>rfl⟩
 ·refine ⟨h1,h2,z,h3.grown hg (by intro e;injection e with e;exact n2 e),h4,fun e=>h5 ?_⟩
  unfold setD at e
  simpa [n1] using e
theorem done (h:ResC b L RS D u) (hD:∀ x ∈ RS,D x.1 = true):Kept b (RS.map (fun x=>(x.2.1,x.2.2.1,x.2.2.2)) ++ L) u:=by
 refine ⟨h.1.1,fun y hy=>?_⟩
 rcases List.mem_append.1 hy with hy | hy
 ·obtain ⟨x,hx,rfl⟩:=List.mem_map.1 hy
  obtain ⟨h1,_,z,h3,_,h5⟩:=h.2 x hx
  rw [h5 (hD x hx)] at h3
  exact ⟨h1,h3⟩
 ·exact h.1.2 y hy
end ResC
theorem DJ {P:Program} {ρ:Operand -> Value} {o:Oper} {t:TypeId} {w:World} {K:Value -> World -> Prop} {cs:Array Value} (hop:o.op = .alloc t) (hz:(P.info? t).map (·.zero) = some (some (σ cs)))
    (h:K (.pointer (some ⟨w.1.size,0,none⟩)) (w.alloc (.cells cs t))):Bt P ((execOp ρ o).run P w) K:=by
 obtain ⟨i,hi,hzi⟩:=Option.map_eq_some_iff.1 hz
 have e:(execOp ρ o).run P w = .ok (.value (.pointer (some ⟨w.1.size,0,none⟩))) (w.alloc (.cells cs t)):=by
  unfold execOp
  rw [hop]
  simp [Instr.alloc,zeroValue,typeInfo,hi,hzi,newVar,newRow,newObj,Value.cells,go_sem]
  rfl
 rw [e]
 exact h
abbrev Made:=Nat × Nat × TypeId × Array Value
def DL (b:World) (n0:Nat) (L:List Box) (RS:List Res) (NS:List Made) (D:Nat -> Bool) (γ:Nat -> Value) (u:World):Prop:=
 ResC b L RS D u /\ b.1.size <= n0 /\ n0 <= u.1.size /\ (∀ x ∈ L,x.1 < n0) /\ (∀ x ∈ RS,x.2.1 < n0) /\
 (∀ x ∈ NS,D x.1 = true -> ∃ g,γ x.1 = .pointer (some ⟨g,0,none⟩) /\ n0 <= g /\ ∃ z,Aa u g x.2.2.1 z /\ z.size = x.2.2.2.size /\ (D x.2.1 = true -> z = x.2.2.2)) /\
 (∀ x ∈ NS,∀ y ∈ NS,x.1 ≠ y.1 -> D x.1 = true -> D y.1 = true -> γ x.1 ≠ γ y.1) /\ (∀ x ∈ NS,D x.2.1 = true -> D x.1 = true)
def ShM (vs:List (Nat × Value)) (ks:List Nat):Nat -> Value -> Prop:=fun i v=>bif ks.contains i then ∃ g:Nat,v = .pointer (some ⟨g,0,none⟩) else v = (vs.lookup i).getD undef
theorem ShM.inh (vs:List (Nat × Value)) (ks:List Nat) (i:Nat):∃ v,ShM vs ks i v:=by
 unfold ShM
 cases ks.contains i
 ·exact ⟨_,rfl⟩
 ·exact ⟨_,0,rfl⟩
namespace DL
variable {b u v:World} {n0:Nat} {L:List Box} {RS:List Res} {NS:List Made} {D:Nat -> Bool} {γ γ':Nat -> Value} {k p j:Nat} {t:TypeId} {V:Array Value}
theorem loc (ha:∀ i,D i = true -> γ i = γ' i) (h:DL b n0 L RS NS D γ u):DL b n0 L RS NS D γ' u:=by
 obtain ⟨h1,h2,h3,h4,h5,h6,h7,h8⟩:=h
 refine ⟨h1,h2,h3,h4,h5,fun x hx hd=>?_,fun x hx y hy hne hdx hdy=>?_,h8⟩
 ·rw [<- ha _ hd];exact h6 x hx hd
 ·rw [<- ha _ hdx,<- ha _ hdy];exact h7 x hx y hy hne hdx hdy
theorem start (h:ResC b L RS (fun _=>false) u) (hb:b.1.size <= n0) (hn:n0 <= u.1.size) (hL:∀ x ∈ L,x.1 < n0) (hR:∀ x ∈ RS,x.2.1 < n0):DL b n0 L RS NS (fun _=>false) γ u:=
 ⟨h,hb,hn,hL,hR,fun _ _ e=>(by cases e),fun _ _ _ _ _ e=>(by cases e),fun _ _ e=>(by cases e)⟩
theorem below (h:DL b n0 L RS NS D γ u) (hb:Below u.1.size u v) (k:Nat) (w:Value) (hk:(∀ x ∈ RS,x.1 ≠ k) /\ ∀ x ∈ NS,x.1 ≠ k /\ x.2.1 ≠ k):DL b n0 L RS NS (setD D k) (setG γ k w) v:=by
 obtain ⟨h1,h2,h3,h4,h5,h6,h7,h8⟩:=h
 refine ⟨h1.below hb k hk.1,h2,Nat.le_trans h3 hb.size,h4,h5,fun x hx hd=>?_,fun x hx y hy hne hdx hdy=>?_,fun x hx hd=>?_⟩
 ·have hn:=hk.2 x hx
  have hd':D x.1 = true:=by unfold setD at hd;simpa [hn.1] using hd
  obtain ⟨g,e1,e2,z,e3,e4,e5⟩:=h6 x hx hd'
  refine ⟨g,by unfold setG;rw [if_neg hn.1];exact e1,e2,z,e3.below hb e3.lt,e4,fun e=>e5 ?_⟩
  unfold setD at e;simpa [hn.2] using e
 ·have hnx:=(hk.2 x hx).1
  have hny:=(hk.2 y hy).1
  unfold setG setD at *
  rw [if_neg hnx,if_neg hny]
  exact h7 x hx y hy hne (by simpa [hnx] using hdx) (by simpa [hny] using hdy)
 ·have hn:=hk.2 x hx
  unfold setD at *
  rw [h8 x hx (by simpa [hn.2] using hd)];simp
theorem made (h:DL b n0 L RS NS D γ u) (hm:(k,j,t,V) ∈ NS) (hR:∀ x ∈ RS,x.1 ≠ k) (hN:∀ x ∈ NS,x = (k,j,t,V) \/ (x.1 ≠ k /\ x.2.1 ≠ k)) (hk:D k = false) (hjk:j ≠ k) {z:Array Value} (hz:z.size = V.size):
    DL b n0 L RS NS (setD D k) (setG γ k (.pointer (some ⟨u.1.size,0,none⟩))) (u.alloc (.cells z t)):=by
 obtain ⟨h1,h2,h3,h4,h5,h6,h7,h8⟩:=h
 have hb:Below u.1.size u (u.alloc (.cells z t)):=(Below.refl _ _).alloc (lr _) _
 refine ⟨h1.below hb k hR,h2,Nat.le_trans h3 hb.size,h4,h5,fun x hx hd=>?_,fun x hx y hy hne hdx hdy=>?_,fun x hx hd=>?_⟩
 ·rcases hN x hx with rfl | hn
  ·refine ⟨_,by unfold setG;rw [if_pos rfl],h3,z,Aa.new u t z,hz,fun e=>?_⟩
   unfold setD at e
   have:=h8 _ hm (by simpa [hjk] using e)
   rw [hk] at this;cases this
  ·have hd':D x.1 = true:=by unfold setD at hd;simpa [hn.1] using hd
   obtain ⟨g,e1,e2,z',e3,e4,e5⟩:=h6 x hx hd'
   refine ⟨g,by unfold setG;rw [if_neg hn.1];exact e1,e2,z',e3.below hb e3.lt,e4,fun e=>e5 ?_⟩
   unfold setD at e;simpa [hn.2] using e
 ·have old:∀ x ∈ NS,x.1 ≠ k -> setD D k x.1 = true -> setG γ k (.pointer (some ⟨u.1.size,0,none⟩)) x.1 = γ x.1 /\ γ x.1 ≠ .pointer (some ⟨u.1.size,0,none⟩):=by
    intro x hx hne hd
    unfold setD at hd
    obtain ⟨g,e1,_,z',e3,_⟩:=h6 x hx (by simpa [hne] using hd)
    refine ⟨by unfold setG;rw [if_neg hne],fun e=>?_⟩
    rw [e1] at e
    have hlt:=e3.lt
    simp only [Value.pointer.injEq,Option.some.injEq,Addr.mk.injEq,and_true] at e
    omega
  by_cases hxk:x.1 = k
  ·have hyk:y.1 ≠ k:=fun e=>hne (hxk.trans e.symm)
   obtain ⟨a1,a2⟩:=old y hy hyk hdy
   rw [a1]
   unfold setG
   rw [if_pos hxk]
   exact fun e=>a2 e.symm
  ·obtain ⟨a1,a2⟩:=old x hx hxk hdx
   by_cases hyk:y.1 = k
   ·rw [a1]
    unfold setG
    rw [if_pos hyk]
    exact a2
   ·obtain ⟨b1,_⟩:=old y hy hyk hdy
    rw [a1,b1]
    unfold setD at hdx hdy
    exact h7 x hx y hy hne (by simpa [hxk] using hdx) (by simpa [hyk] using hdy)
 ·rcases hN x hx with rfl | hn
  ·simp [setD]
  ·unfold setD at *
   rw [h8 x hx (by simpa [hn.2] using hd)];simp
theorem box (h:DL b n0 L RS NS D γ u) (hm:(k,j,t,V) ∈ NS) (hk:D k = true):∃ g,γ k = .pointer (some ⟨g,0,none⟩) /\ ∃ z,Aa u g t z /\ z.size = V.size:=by
 obtain ⟨g,e1,_,z,e3,e4,_⟩:=h.2.2.2.2.2.1 _ hm hk
 exact ⟨g,e1,z,e3,e4⟩
theorem filled (h:DL b n0 L RS NS D γ u) (hm:(k,j,t,V) ∈ NS) (hk:D k = true) (hR:∀ x ∈ RS,x.1 ≠ j) (hN:∀ x ∈ NS,x = (k,j,t,V) \/ (x.1 ≠ k /\ x.1 ≠ j /\ x.2.1 ≠ j)) (hkj:k ≠ j) (he:γ k = .pointer (some ⟨p,0,none⟩)) (hg:u.grownBy v (some p)) (hc:Aa v p t V) (w:Value):
    DL b n0 L RS NS (setD D j) (setG γ j w) v:=by
 obtain ⟨h1,h2,h3,h4,h5,h6,h7,h8⟩:=h
 obtain ⟨g0,e0,hp,_⟩:=h6 _ hm hk
 have hgp:g0 = p:=by rw [e0] at he;simpa using he
 subst hgp
 refine ⟨?_,h2,Nat.le_trans h3 hg.size,h4,h5,fun x hx hd=>?_,fun x hx y hy hne hdx hdy=>?_,fun x hx hd=>?_⟩
 ·refine ⟨h1.1.grown hg (by omega) (fun y hy=>by have:=h4 y hy;omega),fun x hx=>?_⟩
  obtain ⟨a1,a2,z,a3,a4,a5⟩:=h1.2 x hx
  refine ⟨a1,a2,z,a3.grown hg (by intro e;injection e with e;have:=h5 x hx;omega),a4,fun e=>a5 ?_⟩
  unfold setD at e
  simpa [hR x hx] using e
 ·rcases hN x hx with rfl | hn
  ·refine ⟨g0,by unfold setG;rw [if_neg hkj];exact e0,hp,V,hc,rfl,fun _=>rfl⟩
  ·have hd':D x.1 = true:=by unfold setD at hd;simpa [hn.2.1] using hd
   obtain ⟨g,e1,e2,z,e3,e4,e5⟩:=h6 x hx hd'
   have hgg:g ≠ g0:=by
    rintro rfl
    exact h7 x hx _ hm hn.1 hd' hk (e1.trans e0.symm)
   refine ⟨g,by unfold setG;rw [if_neg hn.2.1];exact e1,e2,z,e3.grown hg (by intro e;injection e with e;exact hgg e),e4,fun e=>e5 ?_⟩
   unfold setD at e;simpa [hn.2.2] using e
 ·have nj:∀ x ∈ NS,x.1 ≠ j:=fun x hx=>by rcases hN x hx with rfl | hn;exact hkj;exact hn.2.1
  have hnx:=nj x hx
  have hny:=nj y hy
  unfold setG setD at *
  rw [if_neg hnx,if_neg hny]
  exact h7 x hx y hy hne (by simpa [hnx] using hdx) (by simpa [hny] using hdy)
 ·rcases hN x hx with rfl | hn
  ·unfold setD;rw [hk];simp
  ·unfold setD at *
   rw [h8 x hx (by simpa [hn.2.2] using hd)];simp
theorem done (h:DL b n0 L RS NS D γ u) (hR:∀ x ∈ RS,D x.1 = true):Kept b (RS.map (fun x=>(x.2.1,x.2.2.1,x.2.2.2)) ++ L) u:=h.1.done hR
theorem doneM (h:DL b n0 L RS NS D γ u) (hm:(k,j,t,V) ∈ NS) (hk:D k = true) (hj:D j = true):∃ g,γ k = .pointer (some ⟨g,0,none⟩) /\ n0 <= g /\ Aa u g t V:=by
 obtain ⟨g,e1,e2,z,e3,_,e5⟩:=h.2.2.2.2.2.1 _ hm hk
 rw [e5 hj] at e3
 exact ⟨g,e1,e2,e3⟩
end DL
theorem Kept.more {b w:World} {L:List Box} {g:Nat} {t:TypeId} {cs:Array Value} (h:Kept b L w) (hg:b.1.size <= g) (hc:Aa w g t cs):Kept b ((g,t,cs) :: L) w:=
 ⟨h.1,fun x hx=>by rcases List.mem_cons.1 hx with rfl | hx;exact ⟨hg,hc⟩;exact h.2 x hx⟩
structure Own where
 k:Nat
 j:Nat
 fp:Value -> List Nat
 holds:Bool -> Value -> World -> Prop
def Own.Stable (x:Own):Prop:=∀ d v u u',x.holds d v u -> (∀ g ∈ x.fp v,u'.1[g]? = u.1[g]?) -> x.holds d v u'
def OwnC (b:World) (n0:Nat) (L:List Box) (RS:List Res) (OS:List Own) (EX:Nat -> Nat -> Bool) (D:Nat -> Bool) (γ:Nat -> Value) (u:World):Prop:=
 ResC b L RS D u /\ b.1.size <= n0 /\ n0 <= u.1.size /\ (∀ x ∈ L,x.1 < n0) /\ (∀ x ∈ RS,x.2.1 < n0) /\
 (∀ x ∈ OS,D x.k = true -> x.holds (D x.j) (γ x.k) u /\ ∀ g ∈ x.fp (γ x.k),n0 <= g /\ g < u.1.size) /\
 (∀ x ∈ OS,∀ y ∈ OS,x.k ≠ y.k -> EX x.k y.k = false -> D x.k = true -> D y.k = true -> ∀ g ∈ x.fp (γ x.k),g ∉ y.fp (γ y.k)) /\ (∀ x ∈ OS,D x.j = true -> D x.k = true)
namespace OwnC
variable {b u v:World} {n0:Nat} {L:List Box} {RS:List Res} {OS:List Own} {EX:Nat -> Nat -> Bool} {D:Nat -> Bool} {γ γ':Nat -> Value} {k p:Nat} {t:TypeId} {V:Array Value}
theorem loc (ha:∀ i,D i = true -> γ i = γ' i) (h:OwnC b n0 L RS OS EX D γ u):OwnC b n0 L RS OS EX D γ' u:=by
 obtain ⟨h1,h2,h3,h4,h5,h6,h7,h8⟩:=h
 refine ⟨h1,h2,h3,h4,h5,fun x hx hd=>?_,fun x hx y hy hne hex hdx hdy=>?_,h8⟩
 ·rw [<- ha _ hd];exact h6 x hx hd
 ·rw [<- ha _ hdx,<- ha _ hdy];exact h7 x hx y hy hne hex hdx hdy
theorem start (h:ResC b L RS (fun _=>false) u) (hb:b.1.size <= n0) (hn:n0 <= u.1.size) (hL:∀ x ∈ L,x.1 < n0) (hR:∀ x ∈ RS,x.2.1 < n0):OwnC b n0 L RS OS EX (fun _=>false) γ u:=
 ⟨h,hb,hn,hL,hR,fun _ _ e=>(by cases e),fun _ _ _ _ _ _ e=>(by cases e),fun _ _ e=>(by cases e)⟩
theorem below (hs:∀ x ∈ OS,x.Stable) (h:OwnC b n0 L RS OS EX D γ u) (hb:Below u.1.size u v) (k:Nat) (w:Value) (hk:(∀ x ∈ RS,x.1 ≠ k) /\ ∀ x ∈ OS,x.k ≠ k /\ x.j ≠ k):OwnC b n0 L RS OS EX (setD D k) (setG γ k w) v:=by
 obtain ⟨h1,h2,h3,h4,h5,h6,h7,h8⟩:=h
 refine ⟨h1.below hb k hk.1,h2,Nat.le_trans h3 hb.size,h4,h5,fun x hx hd=>?_,fun x hx y hy hne hex hdx hdy=>?_,fun x hx hd=>?_⟩
 ·have hn:=hk.2 x hx
  unfold setD setG at *
  simp only [Bool.or_eq_true,beq_iff_eq,hn.1,false_or] at hd
  obtain ⟨e1,e2⟩:=h6 x hx hd
  rw [if_neg hn.1,show (x.j == k || D x.j) = D x.j by simp [hn.2]]
  exact ⟨hs x hx _ _ _ _ e1 fun g hg=>hb.block g (e2 g hg).2,fun g hg=>⟨(e2 g hg).1,Nat.lt_of_lt_of_le (e2 g hg).2 hb.size⟩⟩
 ·have hnx:=(hk.2 x hx).1
  have hny:=(hk.2 y hy).1
  unfold setG setD at *
  rw [if_neg hnx,if_neg hny]
  exact h7 x hx y hy hne hex (by simpa [hnx] using hdx) (by simpa [hny] using hdy)
 ·have hn:=hk.2 x hx
  unfold setD at *
  rw [h8 x hx (by simpa [hn.2] using hd)];simp
theorem made (hs:∀ x ∈ OS,x.Stable) (h:OwnC b n0 L RS OS EX D γ u) {z:Own} (hm:z ∈ OS) (hR:∀ x ∈ RS,x.1 ≠ z.k) (hN:∀ x ∈ OS,x = z \/ (x.k ≠ z.k /\ x.j ≠ z.k)) (hk:D z.k = false) (hb:Below u.1.size u v) {w:Value}
    (hw:z.holds (z.j == z.k) w v) (hf:∀ g ∈ z.fp w,u.1.size <= g /\ g < v.1.size):OwnC b n0 L RS OS EX (setD D z.k) (setG γ z.k w) v:=by
 obtain ⟨h1,h2,h3,h4,h5,h6,h7,h8⟩:=h
 have old:∀ x ∈ OS,x ≠ z -> setD D z.k x.k = true -> D x.k = true /\ setG γ z.k w x.k = γ x.k:=by
  intro x hx hne hd
  rcases hN x hx with e | hn
  ·exact absurd e hne
  ·unfold setD setG at *
   exact ⟨by simpa [hn.1] using hd,if_neg hn.1⟩
 have new:setG γ z.k w z.k = w:=if_pos rfl
 refine ⟨h1.below hb z.k hR,h2,Nat.le_trans h3 hb.size,h4,h5,fun x hx hd=>?_,fun x hx y hy hne hex hdx hdy=>?_,fun x hx hd=>?_⟩
 ·by_cases hxz:x = z
  ·subst hxz
   rw [new]
   have hj:setD D x.k x.j = (x.j == x.k):=by
    unfold setD
    cases hjk:(x.j == x.k) with
    | true=>rfl
    | false=>
      cases hdj:D x.j with
      | false=>rfl
      | true=>have:=h8 x hx hdj;rw [hk] at this;cases this
   rw [hj]
   exact ⟨hw,fun g hg=>⟨Nat.le_trans h3 (hf g hg).1,(hf g hg).2⟩⟩
  ·obtain ⟨a1,a2⟩:=old x hx hxz hd
   obtain ⟨e1,e2⟩:=h6 x hx a1
   have hn:x.k ≠ z.k /\ x.j ≠ z.k:=by rcases hN x hx with e | hn;exact absurd e hxz;exact hn
   rw [a2,show setD D z.k x.j = D x.j by unfold setD;simp [hn.2]]
   exact ⟨hs x hx _ _ _ _ e1 fun g hg=>hb.block g (e2 g hg).2,fun g hg=>⟨(e2 g hg).1,Nat.lt_of_lt_of_le (e2 g hg).2 hb.size⟩⟩
 ·by_cases hxz:x = z
  ·subst hxz
   have hyz:y ≠ x:=fun e=>hne (by rw [e])
   obtain ⟨b1,b2⟩:=old y hy hyz hdy
   rw [new,b2]
   intro g hg hgy
   have e1:=(hf g hg).1
   have e2:=((h6 y hy b1).2 g hgy).2
   omega
  ·obtain ⟨a1,a2⟩:=old x hx hxz hdx
   by_cases hyz:y = z
   ·subst hyz
    rw [new,a2]
    intro g hg hgy
    have e1:=(hf g hgy).1
    have e2:=((h6 x hx a1).2 g hg).2
    omega
   ·obtain ⟨b1,b2⟩:=old y hy hyz hdy
    rw [a2,b2]
    exact h7 x hx y hy hne hex a1 b1
 ·rcases hN x hx with rfl | hn
  ·simp [setD]
  ·unfold setD at *
   rw [h8 x hx (by simpa [hn.2] using hd)];simp
theorem at_ (h:OwnC b n0 L RS OS EX D γ u) {z:Own} (hm:z ∈ OS) (hk:D z.k = true):z.holds (D z.j) (γ z.k) u /\ ∀ g ∈ z.fp (γ z.k),n0 <= g /\ g < u.1.size:=h.2.2.2.2.2.1 z hm hk
theorem moved (hs:∀ x ∈ OS,x.Stable) (h:OwnC b n0 L RS OS EX D γ u) {y z:Own} (hy:y ∈ OS) (hm:z ∈ OS) (hyj:y.j = z.k) (hzj:z.j = z.k) (hyk:D y.k = true) (hR:∀ x ∈ RS,x.1 ≠ z.k)
    (hN:∀ x ∈ OS,x = z \/ x = y \/ (x.k ≠ z.k /\ x.j ≠ z.k /\ x.k ≠ y.k /\ EX x.k y.k = false /\ EX y.k x.k = false)) (hne:y.k ≠ z.k) (hX:EX y.k z.k = true /\ EX z.k y.k = true) (hk:D z.k = false)
    (hp:y.fp (γ y.k) = [p]) (hg:u.grownBy v (some p)) {w:Value} (hw:z.holds true w v) (hyw:y.holds true (γ y.k) v) (hf:∀ g ∈ z.fp w,g = p \/ u.1.size <= g) (hfv:∀ g ∈ z.fp w,g < v.1.size):OwnC b n0 L RS OS EX (setD D z.k) (setG γ z.k w) v:=by
 obtain ⟨h1,h2,h3,h4,h5,h6,h7,h8⟩:=h
 have hpn:=(h6 y hy hyk).2 p (by rw [hp];simp)
 have new:setG γ z.k w z.k = w:=if_pos rfl
 have oldG:∀ x:Own,x.k ≠ z.k -> setG γ z.k w x.k = γ x.k:=fun x hx=>if_neg hx
 have oldD:∀ x:Own,x.k ≠ z.k -> setD D z.k x.k = true -> D x.k = true:=fun x hx hd=>by unfold setD at hd;simpa [hx] using hd
 refine ⟨?_,h2,Nat.le_trans h3 hg.size,h4,h5,fun x hx hd=>?_,fun x hx x' hx' hnn hex hdx hdy=>?_,fun x hx hd=>?_⟩
 ·refine ⟨h1.1.grown hg (by omega) (fun y hy=>by have:=h4 y hy;omega),fun x hx=>?_⟩
  obtain ⟨a1,a2,zz,a3,a4,a5⟩:=h1.2 x hx
  refine ⟨a1,a2,zz,a3.grown hg (by intro e;injection e with e;have:=h5 x hx;omega),a4,fun e=>a5 ?_⟩
  unfold setD at e
  simpa [hR x hx] using e
 ·rcases hN x hx with rfl | rfl | ⟨n1,n2,n3,n4,n5⟩
  ·rw [new,hzj,show setD D x.k x.k = true by simp [setD]]
   exact ⟨hw,fun g hgf=>⟨by rcases hf g hgf with rfl | h;exact hpn.1;omega,hfv g hgf⟩⟩
  ·rw [oldG x hne,hyj,show setD D z.k z.k = true by simp [setD]]
   exact ⟨hyw,fun g hgf=>⟨((h6 x hx hyk).2 g hgf).1,Nat.lt_of_lt_of_le ((h6 x hx hyk).2 g hgf).2 hg.size⟩⟩
  ·rw [oldG x n1,show setD D z.k x.j = D x.j by unfold setD;simp [n2]]
   have hdx:=oldD x n1 hd
   obtain ⟨e1,e2⟩:=h6 x hx hdx
   exact ⟨hs x hx _ _ _ _ e1 fun g hgf=>hg.block g (e2 g hgf).2 (by intro e;injection e with e;subst e;exact h7 x hx y hy n3 n4 hdx hyk g hgf (by rw [hp];simp)),fun g hgf=>⟨(e2 g hgf).1,Nat.lt_of_lt_of_le (e2 g hgf).2 hg.size⟩⟩
 ·have far:∀ x ∈ OS,x ≠ z -> x ≠ y -> setD D z.k x.k = true -> ∀ g ∈ z.fp w,g ∉ x.fp (γ x.k):=by
    intro x hx n1 n2 hd g hgz hgx
    rcases hN x hx with e | e | ⟨m1,m2,m3,m4,m5⟩
    ·exact n1 e
    ·exact n2 e
    ·have hdx:=oldD x m1 hd
     rcases hf g hgz with rfl | hge
     ·exact h7 y hy x hx (Ne.symm m3) m5 hyk hdx g (by rw [hp];simp) hgx
     ·have:=((h6 x hx hdx).2 g hgx).2;omega
  by_cases hxz:x = z
  ·subst hxz
   have hx'z:x'.k ≠ x.k:=Ne.symm hnn
   have hx'y:x' ≠ y:=by rintro rfl;rw [hX.2] at hex;cases hex
   rw [new,oldG x' hx'z]
   exact far x' hx' (fun e=>hx'z (by rw [e])) hx'y hdy
  ·have hxk:x.k ≠ z.k:=by
     rcases hN x hx with e | e | m
     ·exact absurd e hxz
     ·rw [e];exact hne
     ·exact m.1
   by_cases hx'z:x' = z
   ·subst hx'z
    have hxy:x ≠ y:=by rintro rfl;rw [hX.1] at hex;cases hex
    rw [new,oldG x hxk]
    intro g hgx hgz
    exact far x hx hxz hxy hdx g hgz hgx
   ·have hx'k:x'.k ≠ z.k:=by
      rcases hN x' hx' with e | e | m
      ·exact absurd e hx'z
      ·rw [e];exact hne
      ·exact m.1
    rw [oldG x hxk,oldG x' hx'k]
    exact h7 x hx x' hx' hnn hex (oldD x hxk hdx) (oldD x' hx'k hdy)
 ·rcases hN x hx with rfl | rfl | ⟨n1,n2,n3,n4,n5⟩
  ·simp [setD]
  ·unfold setD;rw [hyk];simp
  ·unfold setD at *
   rw [h8 x hx (by simpa [n2] using hd)];simp
end OwnC
structure OutB where
 r:Nat
 t:TypeId
 size:Nat
 j:Nat
 ks:List Nat
 V:(Nat -> Value) -> Array Value
def OutB.Ok (o:OutB) (b:World) (n0:Nat) (L:List Box):Prop:=b.1.size <= o.r /\ o.r < n0 /\ (∀ y ∈ L,y.1 ≠ o.r) /\ (∀ γ γ',(∀ i ∈ o.ks,γ i = γ' i) -> o.V γ = o.V γ') /\ (∀ γ,(o.V γ).size = o.size) /\ o.j ∉ o.ks
def OwnR (b:World) (n0:Nat) (L:List Box) (OS:List Own) (EX:Nat -> Nat -> Bool) (o:OutB) (D:Nat -> Bool) (γ:Nat -> Value) (u:World):Prop:=
 OwnC b n0 L [] OS EX D γ u /\ (∃ z,Aa u o.r o.t z /\ z.size = o.size /\ (D o.j = true -> z = o.V γ)) /\ (D o.j = true -> ∀ i ∈ o.ks,D i = true)
namespace OwnR
variable {b u v:World} {n0:Nat} {L:List Box} {OS:List Own} {EX:Nat -> Nat -> Bool} {o:OutB} {D:Nat -> Bool} {γ γ':Nat -> Value} {k:Nat}
theorem loc (ho:o.Ok b n0 L) (ha:∀ i,D i = true -> γ i = γ' i) (h:OwnR b n0 L OS EX o D γ u):OwnR b n0 L OS EX o D γ' u:=by
 obtain ⟨h1,⟨z,h2,h3,h4⟩,h5⟩:=h
 refine ⟨h1.loc ha,⟨z,h2,h3,fun e=>?_⟩,h5⟩
 rw [h4 e]
 exact ho.2.2.2.1 γ γ' fun i hi=>ha i (h5 e i hi)
theorem start (h:Kept b L u) (hb:b.1.size <= n0) (hn:n0 <= u.1.size) (hL:∀ x ∈ L,x.1 < n0) {z:Array Value} (hz:Aa u o.r o.t z) (hs:z.size = o.size):OwnR b n0 L OS EX o (fun _=>false) γ u.drew:=
 ⟨OwnC.start (ResC.start h (fun x hx=>by cases hx)) hb hn hL (fun x hx=>by cases hx),⟨z,hz.drew,hs,fun e=>(by cases e)⟩,fun e=>(by cases e)⟩
theorem step (ho:o.Ok b n0 L) (h:OwnR b n0 L OS EX o D γ u) (hk:k ≠ o.j) (hD:D k = false) {w:Value} (hc:OwnC b n0 L [] OS EX (setD D k) (setG γ k w) v) (hr:v.1[o.r]? = u.1[o.r]?):OwnR b n0 L OS EX o (setD D k) (setG γ k w) v:=by
 obtain ⟨h1,⟨z,h2,h3,h4⟩,h5⟩:=h
 refine ⟨hc,⟨z,by unfold Aa at *;rw [hr];exact h2,h3,fun e=>?_⟩,fun e i hi=>?_⟩
 ·have e':D o.j = true:=by unfold setD at e;simpa [Ne.symm hk] using e
  rw [h4 e']
  refine ho.2.2.2.1 γ _ fun i hi=>?_
  have:i ≠ k:=by rintro rfl;have:=h5 e' i hi;rw [hD] at this;cases this
  unfold setG;rw [if_neg this]
 ·have e':D o.j = true:=by unfold setD at e;simpa [Ne.symm hk] using e
  unfold setD;rw [h5 e' i hi];simp
theorem lt (ho:o.Ok b n0 L) (h:OwnR b n0 L OS EX o D γ u):o.r < u.1.size:=Nat.lt_of_lt_of_le ho.2.1 h.1.2.2.1
theorem below (ho:o.Ok b n0 L) (hs:∀ x ∈ OS,x.Stable) (h:OwnR b n0 L OS EX o D γ u) (hb:Below u.1.size u v) (hD:D k = false) (w:Value) (hk:k ≠ o.j) (hO:∀ x ∈ OS,x.k ≠ k /\ x.j ≠ k):OwnR b n0 L OS EX o (setD D k) (setG γ k w) v:=
 h.step ho hk hD (h.1.below hs hb k w ⟨fun x hx=>(by cases hx),hO⟩) (hb.block _ (h.lt ho))
theorem made (ho:o.Ok b n0 L) (hs:∀ x ∈ OS,x.Stable) (h:OwnR b n0 L OS EX o D γ u) {z:Own} (hm:z ∈ OS) (hN:∀ x ∈ OS,x = z \/ (x.k ≠ z.k /\ x.j ≠ z.k)) (hk:D z.k = false) (hj:z.k ≠ o.j) (hb:Below u.1.size u v) {w:Value}
    (hw:z.holds (z.j == z.k) w v) (hf:∀ g ∈ z.fp w,u.1.size <= g /\ g < v.1.size):OwnR b n0 L OS EX o (setD D z.k) (setG γ z.k w) v:=
 h.step ho hj hk (h.1.made hs hm (fun x hx=>by cases hx) hN hk hb hw hf) (hb.block _ (h.lt ho))
theorem moved (ho:o.Ok b n0 L) (hs:∀ x ∈ OS,x.Stable) (h:OwnR b n0 L OS EX o D γ u) {y z:Own} {p:Nat} (hy:y ∈ OS) (hm:z ∈ OS) (hyj:y.j = z.k) (hzj:z.j = z.k) (hyk:D y.k = true)
    (hN:∀ x ∈ OS,x = z \/ x = y \/ (x.k ≠ z.k /\ x.j ≠ z.k /\ x.k ≠ y.k /\ EX x.k y.k = false /\ EX y.k x.k = false)) (hne:y.k ≠ z.k) (hX:EX y.k z.k = true /\ EX z.k y.k = true) (hk:D z.k = false) (hj:z.k ≠ o.j)
    (hp:y.fp (γ y.k) = [p]) (hg:u.grownBy v (some p)) {w:Value} (hw:z.holds true w v) (hyw:y.holds true (γ y.k) v) (hf:∀ g ∈ z.fp w,g = p \/ u.1.size <= g) (hfv:∀ g ∈ z.fp w,g < v.1.size):OwnR b n0 L OS EX o (setD D z.k) (setG γ z.k w) v:=by
 have hpn:=(h.1.at_ hy hyk).2 p (by rw [hp];simp)
 refine h.step ho hj hk (h.1.moved hs hy hm hyj hzj hyk (fun x hx=>by cases hx) hN hne hX hk hp hg hw hyw hf hfv) (hg.block _ (h.lt ho) ?_)
 intro e;injection e with e
 have:=ho.2.1;omega
theorem stored (ho:o.Ok b n0 L) (hs:∀ x ∈ OS,x.Stable) (h:OwnR b n0 L OS EX o D γ u) (hO:∀ x ∈ OS,x.k ≠ o.j /\ x.j ≠ o.j) (hd:∀ i ∈ o.ks,D i = true) (hg:u.grownBy v (some o.r)) (hc:Aa v o.r o.t (o.V γ)) (w:Value):OwnR b n0 L OS EX o (setD D o.j) (setG γ o.j w) v:=by
 obtain ⟨⟨a1,a2,a3,a4,a5,a6,a7,a8⟩,_,h5⟩:=h
 have eV:o.V (setG γ o.j w) = o.V γ:=ho.2.2.2.1 _ _ fun i hi=>by unfold setG;rw [if_neg];rintro rfl;exact ho.2.2.2.2.2 hi
 refine ⟨⟨?_,a2,Nat.le_trans a3 hg.size,a4,a5,fun x hx hdx=>?_,fun x hx y hy hne hex hdx hdy=>?_,fun x hx hdx=>?_⟩,⟨o.V γ,hc,ho.2.2.2.2.1 γ,fun _=>eV.symm⟩,fun _ i hi=>by unfold setD;rw [hd i hi];simp⟩
 ·exact ⟨a1.1.grown hg ho.1 ho.2.2.1,fun x hx=>by cases hx⟩
 ·have hn:=hO x hx
  unfold setD setG at *
  simp only [Bool.or_eq_true,beq_iff_eq,hn.1,false_or] at hdx
  obtain ⟨e1,e2⟩:=a6 x hx hdx
  rw [if_neg hn.1,show (x.j == o.j || D x.j) = D x.j by simp [hn.2]]
  exact ⟨hs x hx _ _ _ _ e1 fun g hgf=>hg.block g (e2 g hgf).2 (by intro e;injection e with e;have:=(e2 g hgf).1;have:=ho.2.1;omega),fun g hgf=>⟨(e2 g hgf).1,Nat.lt_of_lt_of_le (e2 g hgf).2 hg.size⟩⟩
 ·have hnx:=(hO x hx).1
  have hny:=(hO y hy).1
  unfold setG setD at *
  rw [if_neg hnx,if_neg hny]
  exact a7 x hx y hy hne hex (by simpa [hnx] using hdx) (by simpa [hny] using hdy)
 ·have hn:=hO x hx
  unfold setD at *
  rw [a8 x hx (by simpa [hn.2] using hdx)];simp
theorem box (h:OwnR b n0 L OS EX o D γ u):∃ z,Aa u o.r o.t z /\ z.size = o.size:=by
 obtain ⟨_,⟨z,h2,h3,_⟩,_⟩:=h
 exact ⟨z,h2,h3⟩
theorem done (h:OwnR b n0 L OS EX o D γ u) (hj:D o.j = true):Aa u o.r o.t (o.V γ) /\ Kept b L u:=by
 obtain ⟨h1,⟨z,h2,_,h4⟩,_⟩:=h
 rw [h4 hj] at h2
 exact ⟨h2,h1.1.1⟩
end OwnR
def ShL (l:List (Nat × (Value -> Prop))):Nat -> Value -> Prop:=fun i v=>match l.lookup i with | some P=>P v | none=>v = undef
theorem ShL.inh (l:List (Nat × (Value -> Prop))) (h:∀ x ∈ l,∃ v,x.2 v) (i:Nat):∃ v,ShL l i v:=by
 unfold ShL
 cases e:l.lookup i with
 | none=>exact ⟨_,rfl⟩
 | some P=>
   have:∃ x ∈ l,x.2 = P:=by
    clear h
    induction l with
    | nil=>cases e
    | cons y l ih=>
      rw [List.lookup_cons] at e
      split at e
      ·injection e with e;exact ⟨y,List.mem_cons_self ..,e⟩
      ·obtain ⟨x,hx,h2⟩:=ih e;exact ⟨x,List.mem_cons_of_mem _ hx,h2⟩
   obtain ⟨x,hx,rfl⟩:=this
   exact h x hx
def SW (k j:Nat) (t:TypeId) (V:Array Value):Own:=
 ⟨k,j,fun v=>match v with | .pointer (some a)=>[a.block] | _=>[],fun d v u=>∃ g z,v = .pointer (some ⟨g,0,none⟩) /\ Aa u g t z /\ z.size = V.size /\ (d = true -> z = V)⟩
def Dn (k j base:Nat) (t:TypeId) (size:Nat):Own:=
 ⟨k,j,fun v=>match v with | .slice (some a) _ _=>[a.block] | _=>[],fun d v u=>d = false -> ∃ g,v = ψ (some ⟨g,0,none⟩) 0 0 /\ u.ownsRow base t size v 0 []⟩
theorem Dn.stable (k j base:Nat) (t:TypeId) (size:Nat):(Dn k j base t size).Stable:=by
 intro d v u u' h hf hd
 obtain ⟨g,e,h2⟩:=h hd
 refine ⟨g,e,h2.1,?_⟩
 subst e
 rcases h2.2 with h0 | ⟨g',cap,cur,e,hb,hg,r⟩
 ·exact .inl h0
 ·refine .inr ⟨g',cap,cur,e,hb,?_,r⟩
  simp only [Value.slice.injEq,Option.some.injEq,Addr.mk.injEq] at e
  rw [hf g' (by rw [<- e.1.1];simp [Dn])];exact hg
def AE (k:Nat) (base:Nat) (t:TypeId) (size n:Nat) (xs:List Value):Own:=
 ⟨k,k,fun v=>match v with | .slice (some a) _ _=>[a.block] | _=>[],fun _ v u=>u.ownsRow base t size v n xs⟩
theorem AE.stable (k base:Nat) (t:TypeId) (size n:Nat) (xs:List Value):(AE k base t size n xs).Stable:=by
 intro d v u u' h hf
 refine ⟨h.1,?_⟩
 rcases h.2 with h0 | ⟨g,cap,cur,e,hb,hg,r⟩
 ·exact .inl h0
 ·subst e
  refine .inr ⟨g,cap,cur,rfl,hb,?_,r⟩
  rw [hf g (by simp [AE])];exact hg

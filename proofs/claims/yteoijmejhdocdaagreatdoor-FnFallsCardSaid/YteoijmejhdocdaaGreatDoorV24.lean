import Derived.Test.YteoijmejhdocdaaGreatDoorV23
namespace Go.Proofs.YteoijmejhdocdaaGreatDoor.Mx
open Go.ChangeShapes Go.WideShapes Go.ChangeAt Go.RowKit
set_option linter.unusedVariables false
open Go.Lib (hid)
open Go.Proofs.Tryz
set_option maxRecDepth 20000
set_option maxHeartbeats 64000000
open Value renaming int → O, slice → ψ, bool → φ, agg → σ
open IntKind renaming i64 → U
open Ending renaming returned → τ
def FmtC (b w0:World) (L:List Box) (T:List Tru) (M:List Ce) (cn mc:Int) (p:Nat) (PT:TypeId) (old:Array Value) (V:Value -> Array Value) (D:Nat -> Bool) (γ:Nat -> Value) (u:World):Prop:=
 Kept b L u /\ w0.grownBy u (some p) /\ (D 12 = false -> Aa u p PT old) /\ (D 12 = true -> Aa u p PT (V (γ 10))) /\
 (D 4 = true -> ∃ A c,γ 4 = σ #[O U cn,ψ A T.length c,O U mc] /\ Bl u w0.1.size (ψ A T.length c) T) /\
 (D 5 = true -> D 8 = false -> Bv u w0.1.size (γ 5) []) /\ (D 8 = true -> Bv u w0.1.size (γ 8) M) /\
 (D 4 = true -> D 5 = true -> D 8 = false -> Sep (Ae (agg1 (γ 4))) (Ae (γ 5))) /\ (D 4 = true -> D 8 = true -> Sep (Ae (agg1 (γ 4))) (Ae (γ 8))) /\
 (D 10 = true -> ∃ g,γ 10 = ψ (some ⟨g,0,none⟩) 2 2 /\ w0.1.size <= g /\ Aa u g 91 #[O U 0,ψ none 0 0,O U 0,ψ none 0 0,O U cn,agg1 (γ 4),O U mc,γ 8] /\ g ∉ Ae (agg1 (γ 4)) /\ g ∉ Ae (γ 8)) /\
 (D 8 = true -> D 5 = true) /\ (D 10 = true -> D 9 = true) /\ (D 12 = true -> D 10 = true) /\ (D 9 = true -> D 4 = true /\ D 8 = true) /\ (D 9 = true -> γ 9 = σ #[O U cn,agg1 (γ 4),O U mc,γ 8])
section
variable {b w0 u v:World} {p:Nat} {L:List Box} {T:List Tru} {M:List Ce} {cn mc:Int} {PT:TypeId} {old:Array Value} {V:Value -> Array Value} {D:Nat -> Bool} {γ γ':Nat -> Value}
theorem FmtC.loc (ha:∀ i,D i = true -> γ i = γ' i) (h:FmtC b w0 L T M cn mc p PT old V D γ u):FmtC b w0 L T M cn mc p PT old V D γ' u:=by
 obtain ⟨h1,h2,h3,h4,h5,h6,h7,h8,h9,h10,h11,h12_,h13,h14,h15⟩:=h
 have h12:=fun e=>h14 (h12_ e)
 refine ⟨h1,h2,h3,fun e=>?_,fun e=>?_,fun e e'=>?_,fun e=>?_,fun e e' e''=>?_,fun e e'=>?_,fun e=>?_,h11,h12_,h13,h14,fun e=>?_⟩
 ·rw [<- ha 10 (h13 e)];exact h4 e
 ·rw [<- ha 4 e];exact h5 e
 ·rw [<- ha 5 e];exact h6 e e'
 ·rw [<- ha 8 e];exact h7 e
 ·rw [<- ha 4 e,<- ha 5 e'];exact h8 e e' e''
 ·rw [<- ha 4 e,<- ha 8 e'];exact h9 e e'
 ·rw [<- ha 10 e,<- ha 4 (h12 e).1,<- ha 8 (h12 e).2];exact h10 e
 ·rw [<- ha 9 e,<- ha 4 (h14 e).1,<- ha 8 (h14 e).2];exact h15 e
theorem FmtC.start (h:Kept b L u) (hc:Aa u p PT old):FmtC b u L T M cn mc p PT old V (fun _=>false) γ u.drew:=
 ⟨h.drew,Fi (Aj u (some p)),fun _=>hc,fun e=>by (cases e),fun e=>by (cases e),fun e=>by (cases e),fun e=>by (cases e),fun e=>by (cases e),fun e=>by (cases e),fun e=>by (cases e),fun e=>by (cases e),fun e=>by (cases e),fun e=>by (cases e),fun e=>by (cases e),fun e=>by (cases e)⟩
theorem FmtC.sealed (h:FmtC b w0 L T M cn mc p PT old V D γ u) (hD:D 4 = false) (hp:p < w0.1.size) (hb:Below u.1.size u v) {A:Option Addr} {c:Nat} (hr:Bl v u.1.size (ψ A T.length c) T):
    FmtC b w0 L T M cn mc p PT old V (setD D 4) (setG γ 4 (σ #[O U cn,ψ A T.length c,O U mc])) v:=by
 obtain ⟨h1,h2,h3,h4,h5,h6,h7,h8,h9,h10,h11,h12_,h13,h14,h15⟩:=h
 have h12:=fun e=>h14 (h12_ e)
 have d10:D 10 = false:=by cases e:D 10 with | false=>rfl | true=>rw [(h12 e).1] at hD;cases hD
 have d12:D 12 = false:=by cases e:D 12 with | false=>rfl | true=>rw [h13 e] at d10;cases d10
 have hpu:p < u.1.size:=Nat.lt_of_lt_of_le hp h2.size
 have ag:agg1 (σ #[O U cn,ψ A T.length c,O U mc]) = ψ A T.length c:=rfl
 refine ⟨h1.below hb,Ar h2 (BV hb _),fun _=>(h3 d12).below hb hpu,fun e=>?_,fun _=>⟨A,c,By,AV hr h2.size⟩,fun e e'=>?_,fun e=>?_,fun _ e e'=>?_,fun _ e=>?_,fun e=>?_,fun e=>?_,fun e=>?_,fun e=>?_,fun e=>?_,fun e=>?_⟩
 ·rw [An (by omega),d12] at e;cases e
 ·rw [An (by omega)] at e e';rw [At (by omega)];exact (h6 e e').below hb
 ·rw [An (by omega)] at e;rw [At (by omega)];exact (h7 e).below hb
 ·rw [An (by omega)] at e e';rw [By,At (by omega),ag]
  exact (Da (fun y hy=>(Ax (h6 e e') y hy).2) (fun y hy=>(Ax hr y hy).1)).symm
 ·rw [An (by omega)] at e;rw [By,At (by omega),ag]
  exact (Da (fun y hy=>(Ax (h7 e) y hy).2) (fun y hy=>(Ax hr y hy).1)).symm
 ·rw [An (by omega),d10] at e;cases e
 ·rw [An (by omega)] at e |-;exact h11 e
 ·rw [An (by omega),d10] at e;cases e
 ·rw [An (by omega),d12] at e;cases e
 ·rw [An (by omega)] at e;rw [(h14 e).1] at hD;cases hD
 ·rw [An (by omega)] at e;rw [(h14 e).1] at hD;cases hD
theorem FmtC.build (h:FmtC b w0 L T M cn mc p PT old V D γ u) (hD:D 5 = false) (hp:p < w0.1.size):
    FmtC b w0 L T M cn mc p PT old V (setD D 5) (setG γ 5 (ψ (some ⟨u.1.size,0,none⟩) 0 0)) (u.alloc (.cells #[] 118)):=by
 obtain ⟨h1,h2,h3,h4,h5,h6,h7,h8,h9,h10,h11,h12_,h13,h14,h15⟩:=h
 have h12:=fun e=>h14 (h12_ e)
 have d8:D 8 = false:=by cases e:D 8 with | false=>rfl | true=>rw [h11 e] at hD;cases hD
 have d10:D 10 = false:=by cases e:D 10 with | false=>rfl | true=>rw [(h12 e).2] at d8;cases d8
 have d12:D 12 = false:=by cases e:D 12 with | false=>rfl | true=>rw [h13 e] at d10;cases d10
 have hpu:p < u.1.size:=Nat.lt_of_lt_of_le hp h2.size
 have hb:=Ap u (.cells #[] 118)
 refine ⟨h1.alloc _,AZ h2 _,fun _=>(h3 d12).below hb hpu,fun e=>?_,fun e=>?_,fun _ _=>?_,fun e=>?_,fun e _ _=>?_,fun _ e=>?_,fun e=>?_,fun e=>?_,fun e=>?_,fun e=>?_,fun e=>?_,fun e=>?_⟩
 ·rw [An (by omega),d12] at e;cases e
 ·rw [An (by omega)] at e;rw [At (by omega)]
  obtain ⟨A,c,e1,hr⟩:=h5 e
  exact ⟨A,c,e1,hr.below hb⟩
 ·rw [By];exact SRow.made u h2.size
 ·rw [An (by omega),d8] at e;cases e
 ·rw [An (by omega)] at e;rw [At (by omega),By]
  obtain ⟨A,c,e1,hr⟩:=h5 e
  rw [e1]
  exact Da (N:=u.1.size) (fun y hy=>(Ax hr y hy).2) (fun y hy=>by simp [Ae] at hy;omega)
 ·rw [An (by omega),d8] at e;cases e
 ·rw [An (by omega),d10] at e;cases e
 ·exact CQ
 ·rw [An (by omega),d10] at e;cases e
 ·rw [An (by omega),d12] at e;cases e
 ·rw [An (by omega)] at e;rw [(h14 e).2] at d8;cases d8
 ·rw [An (by omega)] at e;rw [(h14 e).2] at d8;cases d8
theorem FmtC.append (h:FmtC b w0 L T M cn mc p PT old V D γ u) (h5':D 5 = true) (hD:D 8 = false) (hp:p < w0.1.size) (hL:∀ x ∈ L,x.1 < w0.1.size) (hb0:b.1.size <= w0.1.size) {g:Nat} (hg5:γ 5 = ψ (some ⟨g,0,none⟩) 0 0) {v':Value} (hr:Bv v w0.1.size v' M) (hg:u.grownBy v (some g))
    (hat:v'.ownBlock = some g \/ v'.ownBlock = some u.1.size) {A8:Option Addr} {c8:Nat} (hv':v' = ψ A8 M.length c8):FmtC b w0 L T M cn mc p PT old V (setD D 8) (setG γ 8 v') v:=by
 obtain ⟨h1,h2,h3,h4,h5,h6,h7,h8,h9,h10,h11,h12_,h13,h14,h15⟩:=h
 have h12:=fun e=>h14 (h12_ e)
 have d10:D 10 = false:=by cases e:D 10 with | false=>rfl | true=>rw [(h12 e).2] at hD;cases hD
 have d12:D 12 = false:=by cases e:D 12 with | false=>rfl | true=>rw [h13 e] at d10;cases d10
 have hgn:w0.1.size <= g:=by have h:=h6 h5' hD;rw [hg5] at h;exact (SRow.lt h rfl).1
 refine ⟨h1.grown hg (by omega) (fun x hx=>by have:=hL x hx;omega),Jd h2 hg hgn,fun _=>(h3 d12).grown hg (by intro e;injection e;omega),fun e=>?_,fun e=>?_,fun _ e=>?_,fun _=>?_,fun _ _ e=>?_,fun e _=>?_,fun e=>?_,fun _=>?_,fun e=>?_,fun e=>?_,fun e=>?_,fun e=>?_⟩
 ·rw [An (by omega),d12] at e;cases e
 ·rw [An (by omega)] at e;rw [At (by omega)]
  obtain ⟨A,c,e1,hrr⟩:=h5 e
  refine ⟨A,c,e1,AK hrr hg (fun hm=>?_)⟩
  have hs:=h8 e h5' hD
  rw [e1,hg5] at hs
  exact hs g hm (by simp [Ae])
 ·rw [CQ] at e;cases e
 ·rw [By];exact hr
 ·rw [CQ] at e;cases e
 ·rw [An (by omega)] at e;rw [At (by omega),By]
  obtain ⟨A,c,e1,hrr⟩:=h5 e
  have hs:=h8 e h5' hD
  intro y hy hm
  have hyb:v'.ownBlock = some y:=by
   subst hv'
   cases A8 with
   | none=>simp [Ae] at hm
   | some a=>simp [Ae] at hm;subst hm;rfl
  rcases hat with ha | ha
  ·rw [ha] at hyb;injection hyb with hyb;subst hyb
   rw [hg5] at hs
   exact hs g hy (by simp [Ae])
  ·rw [ha] at hyb;injection hyb with hyb;subst hyb
   rw [e1] at hy
   have:=(Ax hrr _ hy).2
   omega
 ·rw [An (by omega),d10] at e;cases e
 ·rw [An (by omega)];exact h5'
 ·rw [An (by omega),d10] at e;cases e
 ·rw [An (by omega),d12] at e;cases e
 ·rw [An (by omega)] at e;rw [(h14 e).2] at hD;cases hD
 ·rw [An (by omega)] at e;rw [(h14 e).2] at hD;cases hD
theorem FmtC.pack (h:FmtC b w0 L T M cn mc p PT old V D γ u) (h4':D 4 = true) (h8':D 8 = true) {x:Value} (hx:x = σ #[O U cn,agg1 (γ 4),O U mc,γ 8]):FmtC b w0 L T M cn mc p PT old V (setD D 9) (setG γ 9 x) u:=by
 have k:∀ i,i ≠ 9 -> setD D 9 i = D i:=fun i hi=>An hi
 have q:∀ i,i ≠ 9 -> setG γ 9 x i = γ i:=fun i hi=>At hi
 unfold FmtC at h |-
 rw [k 12 (by omega),k 10 (by omega),k 8 (by omega),k 5 (by omega),k 4 (by omega),q 10 (by omega),q 8 (by omega),q 5 (by omega),q 4 (by omega)]
 obtain ⟨h1,h2,h3,h4,h5,h6,h7,h8,h9,h10,h11,h12,h13,h14,h15⟩:=h
 exact ⟨h1,h2,h3,h4,h5,h6,h7,h8,h9,h10,h11,fun _=>CQ,h13,fun _=>⟨h4',h8'⟩,fun _=>by rw [By];exact hx⟩
theorem FmtC.slots (h:FmtC b w0 L T M cn mc p PT old V D γ u) (hD:D 10 = false) (h9':D 9 = true) (hp:p < w0.1.size):
    FmtC b w0 L T M cn mc p PT old V (setD D 10) (setG γ 10 (ψ (some ⟨u.1.size,0,none⟩) 2 2)) (u.alloc (.cells #[O U 0,ψ none 0 0,O U 0,ψ none 0 0,O U cn,agg1 (γ 4),O U mc,γ 8] 91)):=by
 obtain ⟨h1,h2,h3,h4,h5,h6,h7,h8,h9,h10,h11,h12_,h13,h14,h15⟩:=h
 have h12:=fun e=>h14 (h12_ e)
 have d12:D 12 = false:=by cases e:D 12 with | false=>rfl | true=>rw [h13 e] at hD;cases hD
 obtain ⟨h4',h8'⟩:=h14 h9'
 have hpu:p < u.1.size:=Nat.lt_of_lt_of_le hp h2.size
 have hb:=Ap u (.cells #[O U 0,ψ none 0 0,O U 0,ψ none 0 0,O U cn,agg1 (γ 4),O U mc,γ 8] 91)
 refine ⟨h1.alloc _,AZ h2 _,fun _=>(h3 d12).below hb hpu,fun e=>?_,fun e=>?_,fun e e'=>?_,fun e=>?_,fun e e' e''=>?_,fun e e'=>?_,fun _=>?_,fun e=>?_,fun _=>?_,fun e=>?_,fun e=>?_,fun e=>?_⟩
 ·rw [An (by omega),d12] at e;cases e
 ·rw [An (by omega)] at e;rw [At (by omega)]
  obtain ⟨A,c,e1,hr⟩:=h5 e
  exact ⟨A,c,e1,hr.below hb⟩
 ·rw [An (by omega),h8'] at e';cases e'
 ·rw [At (by omega)];exact (h7 h8').below hb
 ·rw [An (by omega),h8'] at e'';cases e''
 ·rw [At (by omega),At (by omega)];exact h9 h4' h8'
 ·rw [By,At (by omega),At (by omega)]
  obtain ⟨A,c,e1,hr⟩:=h5 h4'
  refine ⟨u.1.size,rfl,h2.size,Aa.new u _ _,fun hm=>?_,fun hm=>?_⟩
  ·rw [e1] at hm
   have:=(Ax hr _ hm).2
   omega
  ·have:=(Ax (h7 h8') _ hm).2
   omega
 ·rw [An (by omega)] at e |-;exact h11 e
 ·rw [An (by omega)];exact h9'
 ·exact CQ
 ·rw [An (by omega),An (by omega)];exact ⟨h4',h8'⟩
 ·rw [An (by omega)] at e;rw [At (by omega),At (by omega),At (by omega)];exact h15 e
theorem FmtC.store (h:FmtC b w0 L T M cn mc p PT old V D γ u) (hd:D 10 = true) (hp:p < w0.1.size) (hb0:b.1.size <= p) (hL:∀ x ∈ L,x.1 ≠ p) (hg:u.grownBy v (some p)) (hc:Aa v p PT (V (γ 10))) {w:Value}:FmtC b w0 L T M cn mc p PT old V (setD D 12) (setG γ 12 w) v:=by
 obtain ⟨h1,h2,h3,h4,h5,h6,h7,h8,h9,h10,h11,h12_,h13,h14,h15⟩:=h
 have h12:=fun e=>h14 (h12_ e)
 obtain ⟨d4,d8⟩:=h12 hd
 refine ⟨h1.grown hg hb0 hL,Ar h2 hg,fun e=>?_,fun _=>?_,fun e=>?_,fun _ e=>?_,fun _=>?_,fun _ _ e=>?_,fun _ _=>?_,fun _=>?_,fun _=>?_,fun _=>?_,fun _=>?_,fun _=>?_,fun _=>?_⟩
 ·rw [CQ] at e;cases e
 ·rw [At (by omega)];exact hc
 ·rw [At (by omega)]
  obtain ⟨A,c,e1,hr⟩:=h5 d4
  exact ⟨A,c,e1,hr.grown hg hp⟩
 ·rw [An (by omega),d8] at e;cases e
 ·rw [At (by omega)];exact (h7 d8).grown hg hp
 ·rw [An (by omega),d8] at e;cases e
 ·rw [At (by omega),At (by omega)];exact h9 d4 d8
 ·rw [At (by omega),At (by omega),At (by omega)]
  obtain ⟨g,e1,e2,e3,e4⟩:=h10 hd
  exact ⟨g,e1,e2,e3.grown hg (by intro e;injection e;omega),e4⟩
 ·rw [An (by omega)];exact h11 d8
 ·rw [An (by omega)];exact h12_ hd
 ·rw [An (by omega)];exact hd
 ·rw [An (by omega),An (by omega)];exact ⟨d4,d8⟩
 ·rw [At (by omega),At (by omega),At (by omega)];exact h15 (h12_ hd)
theorem FmtC.cellAt (h:FmtC b w0 L T M cn mc p PT old V D γ u) (i:Nat) {x:Option Value} (ho:old[i]? = x) (hV:∀ v,(V v)[i]? = x):u.cell? ⟨p,i,none⟩ = x:=by
 cases e:D 12 with
 | false=>rw [(h.2.2.1 e).cell i];exact ho
 | true=>rw [(h.2.2.2.1 e).cell i];exact hV _
end
theorem Pv {P:Program} {ρ:Operand -> Value} {o:Oper} {w:World} {K:Value -> World -> Prop} {v:Value} (hr:(execOp ρ o).run P w = .ok (.value v) w) (h:K v w):Bt P ((execOp ρ o).run P w) K:=by
 rw [hr];exact h
theorem MP {P:Program} {ρ:Operand -> Value} {o:Oper} {t:TypeId} {x y:Operand} {w:World} {K:Value -> World -> Prop} {p off:Nat} {T:TypeId} {old:Array Value} {A:Option Addr} {n c:Nat}
    (hc:Aa w p T old) (hsz:off < old.size) (hop:o.op = .store t x y) (hx:ρ x = .pointer (some ⟨p,off,none⟩)) (hy:ρ y = ψ A n c) (hi:(P.info? t).map (·.size) = some 1)
    (h:∀ w',Aa w' p T (old.setIfInBounds off (ψ A n c)) -> w.grownBy w' (some p) -> K undef w'):Bt P ((execOp ρ o).run P w) K:=by
 obtain ⟨z,hz⟩:∃ z,w.cell? ⟨p,off,none⟩ = some z:=⟨_,(hc.cell off).trans (Array.getElem?_eq_getElem hsz)⟩
 have hf:=hc.frozen off
 have e2:(execOp ρ o).run P w = .ok .skip (w.setCell ⟨p,off,none⟩ (ψ A n c)):=by
  unfold execOp
  rw [hop]
  have hq:∃ i,P.info? t = some i /\ i.size = 1:=by
   obtain ⟨i,h1,h2⟩:=Option.map_eq_some_iff.1 hi
   exact ⟨i,h1,h2⟩
  obtain ⟨i,hi1,hi2⟩:=hq
  simp [hx,hy,Instr.storeAt,Instr.sureAddr,storeVar,sizeOf,typeInfo,hi1,hi2,Value.cells,storeCells,go_sem,hz,hf,Addr.add]
 rw [e2]
 exact h _ (hc.set_ off _) (Ai (Aj w (some p)) off _)
open Go.ChangeShapes Go.WideShapes Go.ChangeAt Go.RowKit Go.Maps
noncomputable def Es (key s:Int) (L:List Tri):Int:=L.foldl (fun s x=>Bf s (Di key x.1 x.2.1 x.2.2)) s
noncomputable def GI (key:Int) (L:List Tri):Int:=if 1 <= key /\ key <= 1000000 then Es key 0 L else -1
theorem Om (key s:Int) (L:List Tri) (x:Tri):Es key s (L ++ [x]) = Bf (Es key s L) (Di key x.1 x.2.1 x.2.2):=by simp [Es]
theorem Rv (s:Int):Bf s (-1) = -1:=by unfold Bf;rw [if_neg (by omega)]
theorem QK (t:Int):Bf (-1) t = -1:=by unfold Bf;rw [if_neg (by omega)]
theorem QT (key:Int) (L:List Tri):Es key (-1) L = -1:=by
 induction L with
 | nil=>rfl
 | cons x L ih=>show Es key (Bf (-1) _) L = -1;rw [QK];exact ih
theorem PF {key s:Int} {L:List Tri} {x:Tri} (hx:x ∈ L) (hb:¬ Dc x.1 x.2.1 x.2.2):Es key s L = -1:=by
 induction L generalizing s with
 | nil=>cases hx
 | cons y L ih=>
   rcases List.mem_cons.1 hx with rfl | hx
   ·show Es key (Bf s _) L = -1;rw [KI hb,Rv];exact QT key L
   ·exact ih hx
theorem OC {key s:Int} {L:List Tri} {k:Nat} {a t v:Int} (h:L.take (k + 1) = L.take k ++ [(a,t,v)]):Es key s (L.take (k + 1)) = Bf (Es key s (L.take k)) (Di key a t v):=by rw [h,Om]
theorem ON (key:Int) (A:Option Addr) (L:List Tri) (cap:Nat) (w:World) (hk:key < 1 \/ 1000000 < key):
    Calls prog 150 #[O U key,ψ A L.length cap] w fun e w'=>e = τ (O U (-1)) /\ w = w':=by
 go_enter func150,ntmps150
 go_wp2_with (go_at_call 145;refine (GJ _ _ hk).mono ?_;rintro e w' ⟨rfl,rfl⟩)
 go_ret
 exact ⟨rfl,rfl⟩
theorem NF (key:Int) (A:Option Addr) (L:List Tri) (cap:Nat) (w:World) (hn:L.length < maxLen) (hA:Tris w w.1.size A L) (k0:1 <= key) (k1:key <= 1000000):
    Calls prog 150 #[O U key,ψ A L.length cap] w fun e w'=>e = τ (O U (Es key 0 L)) /\ Below w.1.size w w':=by
 have hm:=hn
 unfold maxLen at hm
 have HA:=hid hA
 clear hA hn
 go_enter func150,ntmps150
 go_wp2_with fail
 refine (EB _ _ k0 k1).mono ?_;rintro e w' ⟨rfl,rfl⟩
 go_wp2_with fail
 go_loopw [5,6] (fun s i wr=>∃ k:Nat,k <= L.length /\ i = O U k /\ s = O U (Es key 0 (L.take k)) /\ Below w.1.size w wr) (fun _ i _=>L.length - (intOf i).toNat)
 case atStart=>exact ⟨0,Nat.zero_le _,rfl,rfl,Below.refl _ _⟩
 case round=>
  obtain ⟨k,hk,rfl,rfl,hbel⟩:=hrel
  have HB:=hid hbel
  have hAr:=HA.out.below hbel (lr _)
  clear hbel
  by_cases hlt:k < L.length
  ·obtain ⟨b,off,rfl,hb,c0,c1,c2⟩:=hAr k hlt
   have hlt':(k:Int) < L.length:=by omega
   have hk0:(0:Int) <= k:=by omega
   have hs:=Qy hlt
   have hin:=RF hlt
   clear hAr
   generalize L.getD k (0,0,0) = T at c0 c1 c2 hs hin
   obtain ⟨a,t,v⟩:=T
   simp only at c0 c1 c2
   have HS:=hid (OC (key:=key) (s:=0) hs)
   have CO:=hid (fun w=>CV a t v w)
   have CT:=hid (fun w=>Ej key a t v w)
   by_cases hok:Dc a t v
   ·rw [decide_eq_true hok] at CO
    clear hs hin hok
    generalize Es key 0 (L.take k) = s at HS
    generalize Di key a t v = d at HS CT
    go_wp2_with fail
    refine (CO.out _).mono ?_;rintro e w1 ⟨rfl,b1⟩
    have d0:=(b1.cell (p:=⟨b,off + k * 3,none⟩) (Nat.lt_of_lt_of_le hb HB.out.size)).trans c0
    have d1:=(b1.cell (p:=⟨b,off + k * 3 + 1,none⟩) (Nat.lt_of_lt_of_le hb HB.out.size)).trans c1
    have d2:=(b1.cell (p:=⟨b,off + k * 3 + 2,none⟩) (Nat.lt_of_lt_of_le hb HB.out.size)).trans c2
    have B1:=hid (HB.out.trans (b1.mono HB.out.size))
    clear b1 c0 c1 c2
    go_wp2_with fail
    refine (CT.out _).mono ?_;rintro e w2 ⟨rfl,b2⟩
    have B2:=hid (B1.out.trans (b2.mono B1.out.size))
    clear b2 d0 d1 d2
    go_wp2_with fail
    refine (El _ _ _).mono ?_;rintro e w' ⟨rfl,rfl⟩
    go_wp2_with fail
    go_roundw
    case rel=>exact ⟨k + 1,by omega,by go_num,by rw [HS.out],B2.out⟩
    case measure=>simp [intOf];omega
   ·rw [decide_eq_false hok] at CO
    have HX:=hid (PF (key:=key) (s:=0) hin hok)
    clear hs hin hok
    go_wp2_with fail
    refine (CO.out _).mono ?_;rintro e w1 ⟨rfl,b1⟩
    have B1:=hid (HB.out.trans (b1.mono HB.out.size))
    clear b1 c0 c1 c2
    go_wp2_with fail
    go_ret
    exact ⟨by rw [HX.out];rfl,B1.out⟩
  ·have hk':k = L.length:=by omega
   clear hAr
   have HQ:=hid (show L.take k = L by rw [hk',List.take_length])
   clear hk'
   go_wp2_with fail
   go_ret
   exact ⟨by rw [HQ.out];rfl,HB.out⟩
theorem LG (key:Int) (A:Option Addr) (L:List Tri) (cap:Nat) (w:World) (hn:L.length < maxLen) (hA:Tris w w.1.size A L):
    Calls prog 150 #[O U key,ψ A L.length cap] w fun e w'=>e = τ (O U (GI key L)) /\ Below w.1.size w w':=by
 unfold GI
 by_cases hk:1 <= key /\ key <= 1000000
 ·rw [if_pos hk];exact NF key A L cap w hn hA hk.1 hk.2
 ·rw [if_neg hk]
  refine (ON key A L cap w (by omega)).mono ?_
  rintro e w' ⟨rfl,rfl⟩
  exact ⟨rfl,Below.refl _ _⟩
noncomputable def Cj (key first:Int) (n:Nat):List Ce:=(List.range n).map fun (i:Nat)=>Al key (first + (i:Int)) ((i:Int) + 1) 0
noncomputable def Cq (key first:Int) (n:Nat):List Tri:=(List.range n).map fun (i:Nat)=>Ag (first + (i:Int)) (Al key (first + (i:Int)) ((i:Int) + 1) 0).1 (Al key (first + (i:Int)) ((i:Int) + 1) 0).2
theorem LI (key first:Int) (n:Nat):Cj key first (n + 1) = Cj key first n ++ [((Al key (first + n) (n + 1) 0).1,(Al key (first + n) (n + 1) 0).2)]:=by simp [Cj,List.range_succ]
theorem NM (key first:Int) (n:Nat):Cq key first (n + 1) = Cq key first n ++ [Ag (first + n) (Al key (first + n) (n + 1) 0).1 (Al key (first + n) (n + 1) 0).2]:=by simp [Cq,List.range_succ]
theorem Fh (key first:Int) (n:Nat):(Cj key first n).length = n:=by simp [Cj]
theorem Hb (key first:Int) (n:Nat):(Cq key first n).length = n:=by simp [Cq]
theorem MY (a t v:Int):I64 (Ag a t v).1 /\ I64 (Ag a t v).2.1 /\ I64 (Ag a t v).2.2:=by
 by_cases h:Dc a t v
 ·rw [Gs h];exact h.i64
 ·rw [JR h];exact ⟨⟨by decide,by decide⟩,⟨by decide,by decide⟩,⟨by decide,by decide⟩⟩
def NewK (b:World) (L:List Box) (base:Nat) (c t:Value) (C:List Ce) (T:List Tri) (q:Addr) (x:Value) (u:World):Prop:=Kept b L u /\ CRow u base c C /\ TRow u base t T /\ q.block < u.1.size /\ u.cell? q = some x
theorem NewK.below {b u v:World} {L:List Box} {base:Nat} {c t x:Value} {C:List Ce} {T:List Tri} {q:Addr} (h:NewK b L base c t C T q x u) (hb:Below u.1.size u v):NewK b L base c t C T q x v:=
 ⟨h.1.below hb,h.2.1.below hb,h.2.2.1.below hb,Nat.lt_of_lt_of_le h.2.2.2.1 hb.size,(hb.cell h.2.2.2.1).trans h.2.2.2.2⟩
theorem NewK.cells {b u:World} {g p base:Nat} {zs:Array Value} {y z c t x:Value} {C:List Ce} {T:List Tri} {q:Addr} (h:NewK b [(g,94,zs),(p,26,#[y,z])] base c t C T q x u):
    (u.cell? ⟨p,0,none⟩ = some y /\ u.cell? ⟨p,1,none⟩ = some z /\ u.cell? q = some x) /\ NewK b [(g,94,zs),(p,26,#[y,z])] base c t C T q x u:=
 ⟨⟨h.1.tail.cell (List.mem_cons_self ..) 0,h.1.tail.cell (List.mem_cons_self ..) 1,h.2.2.2.2⟩,h⟩
theorem Of (key:Int) (A:Option Addr) (l:List Int) (cap r:Nat) (w:World) (hn:l.length <= maxLen) (hcap:l.length <= cap) (hA:Ints w U w.1.size A l) (hp:Ay key l) (hr:r < l.length):
    Calls prog 73 #[σ #[O U key,ψ A l.length cap],O U r] w fun e w'=>∃ u,e = τ (.tuple #[σ #[O U (l.getD r 0),O U 0,O U 0,O U 0,O U (GI key (Cq key (upTo l r) (l.getD r 0).toNat)),O U 0,O U 0,φ false],u]) /\
     CRow w' w.1.size u (Cj key (upTo l r) (l.getD r 0).toNat) /\ Below w.1.size w w':=by
 have k0:=((Kept.refl w).new 26 #[O U key,ψ A l.length cap]).new 94 #[O U 0,O U 0,O U 0,O U 0,O U 0,O U 0,O U 0,φ false]
 rw [show (w.alloc (.cells #[O U key,ψ A l.length cap] 26)).1.size = w.1.size + 1 by simp] at k0
 have F:=hid (fun (u:World) (hb:Below w.1.size w u)=>Ga key A l cap r u hn hcap ((hA.below hb (lr _)).more hb.size) hp hr)
 have K0:=hid k0
 have HA:=hid hA
 obtain ⟨v,hvv⟩:∃ v,v = l.getD r 0:=⟨_,rfl⟩
 have HV:=hid hvv
 have hv:=hp.2.2.1 r hr
 have hu:=Dl hp.2.2.1 (show r <= l.length by omega)
 have hl4:=hp.2.1.2
 rw [<- hvv] at hv |-
 obtain ⟨f,hff⟩:∃ f,f = upTo l r:=⟨_,rfl⟩
 rw [<- hff] at F hu |-
 obtain ⟨v0,v1⟩:=hv
 obtain ⟨u0,u1⟩:=hu
 have hr':(r:Int) < l.length:=by omega
 have hr0:(0:Int) <= r:=by omega
 obtain ⟨ic,hci,hcz0,hcz1,hcz2⟩:=OL
 obtain ⟨it,hti,htz0,htz1,htz2⟩:=Oy
 clear hA hn k0 hvv hff hp
 go_enter func73,ntmps73
 go_wp2_with fail
 refine (F.out _ K0.out.1).mono ?_;rintro e w1 ⟨rfl,b1⟩
 have z1:w.1.size + 1 + 1 <= w1.1.size:=by have:=b1.size;simp at this;omega
 have K1:=hid (((K0.out.below b1).alloc (.cells #[] 118)).alloc (.cells #[] 159))
 have R1:=hid ((CRow.made w1 (w.1.size + 1 + 1) z1).alloc (.cells #[] 159))
 have T1:=hid (TRow.made (w1.alloc (.cells #[] 118)) (w.1.size + 1 + 1) (by simp;omega))
 have hf0:¬ f < 0:=by omega
 clear b1 F K0
 go_wp2_with fail
 rw [show (w1.alloc (.cells #[] 118)).1.size = w1.1.size + 1 by simp] at T1
 go_loopw [7,8,9] (fun c t i u=>∃ (k:Nat) (c' t':Value),c' = c /\ t' = t /\ (k:Int) <= v /\ i = O U k /\ CRow u (w.1.size + 1 + 1) c (Cj key f k) /\ TRow u (w.1.size + 1 + 1) t (Cq key f k) /\ (∀ g,c.ownBlock = some g -> t.ownBlock ≠ some g) /\ Kept w [(w.1.size + 1,94,#[O U 0,O U 0,O U 0,O U 0,O U 0,O U 0,O U 0,φ false]),(w.1.size,26,#[O U key,ψ A l.length cap])] u) (fun _ _ i _=>v.toNat - (intOf i).toNat)
 case atStart=>exact ⟨0,_,_,rfl,rfl,by omega,rfl,R1.out,T1.out,by intro g h1 h2;have e1:w1.1.size = g:=Option.some.inj h1;have e2:w1.1.size + 1 = g:=Option.some.inj h2;omega,K1.out⟩
 case round=>
  obtain ⟨k,p7,p8,rfl,rfl,hk,rfl,hcr,htr,hne,hkp⟩:=hrel
  obtain ⟨bq,off,rfl,hbq,hcq⟩:=(HA.out.below hkp.1 (lr _)) r hr
  rw [<- HV.out] at hcq
  have e0:=hkp.cell (p:=w.1.size) (t:=26) (cs:=#[O U key,ψ (some ⟨bq,off,none⟩) l.length cap]) (by simp) 0
  have e1:=hkp.cell (p:=w.1.size) (t:=26) (cs:=#[O U key,ψ (some ⟨bq,off,none⟩) l.length cap]) (by simp) 1
  simp only [List.getElem?_toArray,List.getElem?_cons_zero,List.getElem?_cons_succ] at e0 e1
  have CR:=hid hcr
  have TT:=hid htr
  have NE:=hid hne
  have KP:=hid hkp
  clear hcr htr hne hkp
  by_cases hlt:(k:Int) < v
  ·have HSC:=hid (LI key f k)
   have HST:=hid (NM key f k)
   have hw1:IntKind.i64.wrap (f + k) = f + k:=IntWalk.i64_in _ (by omega)
   have hw2:IntKind.i64.wrap ((k:Int) + 1) = k + 1:=IntWalk.i64_in _ (by omega)
   have CC:=hid (fun u=>EO key (f + k) (k + 1) 0 u)
   generalize (Al key (f + k) (k + 1) 0).1 = c1 at CC HSC HST
   generalize (Al key (f + k) (k + 1) 0).2 = c2 at CC HSC HST
   go_wp2_with fail
   refine (CC.out _).mono ?_;rintro e w2 ⟨rfl,b2⟩
   have KP2:=hid (KP.out.below b2)
   have CR2:=hid (((CR.out.below b2).alloc (.cells #[O U c1,O U c2] 118)).alloc (.cells #[O U c1,O U c2] 118))
   have TT2:=hid (((TT.out.below b2).alloc (.cells #[O U c1,O U c2] 118)).alloc (.cells #[O U c1,O U c2] 118))
   have z2:=b2.size
   clear b2
   have hel:Aa ((w2.alloc (.cells #[O U c1,O U c2] 118)).alloc (.cells #[O U c1,O U c2] 118)) (w2.1.size + 1) 118 #[O U c1,O U c2]:=by
    have h:=Aa.new (w2.alloc (.cells #[O U c1,O U c2] 118)) 118 #[O U c1,O U c2]
    rwa [show (w2.alloc (.cells #[O U c1,O U c2] 118)).1.size = w2.1.size + 1 by simp] at h
   have hbx:Aa ((w2.alloc (.cells #[O U c1,O U c2] 118)).alloc (.cells #[O U c1,O U c2] 118)) w2.1.size 118 #[O U c1,O U c2]:=Aa.grown (Aa.new w2 118 #[O U c1,O U c2]) (World.grownBy_alloc _ _ none) (by simp)
   have hsz:((w2.alloc (.cells #[O U c1,O U c2] 118)).alloc (.cells #[O U c1,O U c2] 118)).1.size = w2.1.size + 1 + 1:=by simp
   have KB:=hid ((KP2.out.alloc (.cells #[O U c1,O U c2] 118)).alloc (.cells #[O U c1,O U c2] 118))
   have zb:w.1.size + 1 + 1 <= w2.1.size:=by have:=(KP2.out.lt (List.mem_cons_self ..));simp at this;omega
   have lc:=Fh key f k
   have lt_:=Hb key f k
   have own7:=fun g (h:p7.ownBlock = some g)=>World.ownsRow.lt CR.out g h
   have own8:=fun g (h:p8.ownBlock = some g)=>World.ownsRow.lt TT.out.1 g h
   have HEL:=hid hel
   have HBX:=hid hbx
   have O7:=hid own7
   have O8:=hid own8
   clear hel hbx own7 own8
   go_wp2_with (at_builtin;refine wpList_append_lies _ rfl _ _ 28 rfl (w.1.size + 1 + 1) 118 ic (σ #[O U 0,O U 0]) 2 16 underlying28 hci hcz0 hcz1 hcz2 rfl (by omega) p7 (Cj key f k).length (ML (Cj key f k)) rfl CR2.out ⟨w2.1.size + 1,0,none⟩ 1 1 [O U c1,O U c2] rfl rfl (World.news_of_block (cs:=#[O U c1,O U c2]) (t:=118) (fr:=(0,0)) HEL.out) (by simp [Value.oneCell']) (by omega) ?n1 ?n2 ?n3 (w2.1.size + 1 + 1) ?n4 ?_)
   case n1=>unfold maxLen;omega
   case n2=>omega
   case n3=>simp;omega
   case n4=>simp
   intro gg cc wc hown hgrow hat hlt2
   have hrow7:=fun g (h:p7.ownBlock = some g)=>O7.out g h
   have BC:Below (w.1.size + 1 + 1) ((w2.alloc (.cells #[O U c1,O U c2] 118)).alloc (.cells #[O U c1,O U c2] 118)) wc:=EE hgrow (by rw [hsz];omega) (fun g h=>(O7.out g h).1)
   have hbx3:Aa wc w2.1.size 118 #[O U c1,O U c2]:=HBX.out.grown hgrow (by intro e;have h2:=(O7.out _ e.symm).2;omega)
   have g0:wc.cell? ⟨w2.1.size,0,none⟩ = some (O U c1):=hbx3.cell 0
   have g1:wc.cell? ⟨w2.1.size,1,none⟩ = some (O U c2):=hbx3.cell 1
   have KC:=hid (show Kept w [(w.1.size + 1,94,#[O U 0,O U 0,O U 0,O U 0,O U 0,O U 0,O U 0,φ false]),(w.1.size,26,#[O U key,ψ (some ⟨bq,off,none⟩) l.length cap])] wc from ⟨KB.out.1.trans (BC.mono (by omega)),fun y hy=>⟨(KB.out.2 y hy).1,(KB.out.2 y hy).2.below BC (by simp at hy;rcases hy with rfl | rfl <;> simp <;> omega)⟩⟩)
   have C3:=hid (CRow.snoc (L:=Cj key f k) (t:=c1) (z:=c2) (by rw [lc];exact hown))
   have T3:=hid (show TRow wc (w.1.size + 1 + 1) p8 (Cq key f k) from ⟨TT2.out.1.kept hgrow (by
    cases e:p8.ownBlock with
    | none=>exact .inl rfl
    | some j=>exact .inr (fun h=>NE.out j h.symm e)),TT2.out.2⟩)
   have N3:∀ g,(Value.slice (some ⟨gg,0,none⟩) (k + 1) cc).ownBlock = some g -> p8.ownBlock ≠ some g:=by
    intro g h1 h2
    have e1:gg = g:=Option.some.inj h1
    rcases hat with h | h
    ·rw [e1] at h;exact NE.out g h h2
    ·have:=(O8.out g h2).2;omega
   have zc:w2.1.size + 1 + 1 <= wc.1.size:=by have:=BC.size;rw [hsz] at this;exact this
   have HN3:=hid N3
   clear hown hgrow hat hrow7 BC hbx3 N3 HEL HBX KB KP2 CR2 TT2
   have CT:=hid (fun u=>CU (f + k) c1 c2 u)
   have TI:=hid (MY (f + k) c1 c2)
   generalize hti3:Ag (f + k) c1 c2 = t3 at CT HST TI
   clear hti3
   obtain ⟨ta,tb,tc⟩:=t3
   go_wp2_with fail
   refine (CT.out _).mono ?_;rintro e wd ⟨rfl,bd⟩
   have KD:=hid (KC.out.below bd)
   have C4:=hid ((C3.out.below bd).alloc (.cells #[O U ta,O U tb,O U tc] 159))
   have T4:=hid ((T3.out.below bd).alloc (.cells #[O U ta,O U tb,O U tc] 159))
   have O9:=hid (fun g (h:p8.ownBlock = some g)=>World.ownsRow.lt (T3.out.below bd).1 g h)
   have O10:=hid (fun g (h:(Value.slice (some ⟨gg,0,none⟩) (k + 1) cc).ownBlock = some g)=>World.ownsRow.lt (C3.out.below bd) g h)
   have zd:=bd.size
   clear bd g0 g1 KC C3 T3 CT
   go_wp2_with (at_builtin;refine wpList_append_lies _ rfl _ _ 156 rfl (w.1.size + 1 + 1) 159 it (σ #[O U 0,O U 0,O U 0]) 3 24 underlying156 hti htz0 htz1 htz2 rfl (by omega) p8 (Cq key f k).length (IP (Cq key f k)) rfl T4.out.1 ⟨wd.1.size,0,none⟩ 1 1 [O U ta,O U tb,O U tc] rfl rfl (World.news_of_block (cs:=#[O U ta,O U tb,O U tc]) (t:=159) (fr:=(0,0)) (heap_alloc_new wd _)) (by simp [Value.oneCell']) (by omega) ?m1 ?m2 ?m3 (wd.1.size + 1) ?m4 ?_)
   case m1=>unfold maxLen;omega
   case m2=>omega
   case m3=>simp;omega
   case m4=>simp
   intro g5 c5 we hown hgrow hat hlt3
   have BE:Below (w.1.size + 1 + 1) (wd.alloc (.cells #[O U ta,O U tb,O U tc] 159)) we:=EE hgrow (by simp;omega) (fun g h=>(O9.out g h).1)
   have kd:=KD.out.alloc (.cells #[O U ta,O U tb,O U tc] 159)
   have KE:=hid (show Kept w [(w.1.size + 1,94,#[O U 0,O U 0,O U 0,O U 0,O U 0,O U 0,O U 0,φ false]),(w.1.size,26,#[O U key,ψ (some ⟨bq,off,none⟩) l.length cap])] we from ⟨kd.1.trans (BE.mono (by omega)),fun y hy=>⟨(kd.2 y hy).1,(kd.2 y hy).2.below BE (by simp at hy;rcases hy with rfl | rfl <;> simp <;> omega)⟩⟩)
   have T5:=hid (TRow.snoc T4.out.2 TI.out.1 TI.out.2.1 TI.out.2.2 (by rw [lt_];exact hown))
   have C5:=hid (C4.out.kept hgrow (by
    cases e:(Value.slice (some ⟨gg,0,none⟩) (k + 1) cc).ownBlock with
    | none=>exact .inl rfl
    | some j=>exact .inr (fun h=>HN3.out j e h.symm)))
   have N5:=hid (show ∀ g,(Value.slice (some ⟨gg,0,none⟩) (k + 1) cc).ownBlock = some g -> (Value.slice (some ⟨g5,0,none⟩) (k + 1) c5).ownBlock ≠ some g from by
    intro g h1 h2
    have e2:g5 = g:=Option.some.inj h2
    rcases hat with h | h
    ·rw [e2] at h;exact HN3.out g h1 h
    ·have:=(O10.out g h1).2;omega)
   clear hown hgrow hat BE kd C4 T4 KD O9 O10
   go_wp2_with fail
   go_roundw
   case rel=>exact ⟨k + 1,_,_,rfl,rfl,by omega,by go_num,by rw [HSC.out];exact C5.out,by rw [HST.out];exact T5.out,N5.out,KE.out⟩
   case measure=>simp [intOf];omega
  ·obtain rfl:v = k:=by omega
   obtain ⟨Qt,ct,hqt,hlies⟩:=TT.out.lies
   have lt_:=Hb key f k
   rw [lt_] at hqt
   subst hqt
   have SU:=hid (fun u (h:(u.cell? ⟨w.1.size,0,none⟩ = some (O U key) /\ u.cell? ⟨w.1.size,1,none⟩ = some (ψ (some ⟨bq,off,none⟩) l.length cap) /\ u.cell? ⟨bq,off + r,none⟩ = some (O U k)) /\ NewK w [(w.1.size + 1,94,#[O U 0,O U 0,O U 0,O U 0,O U 0,O U 0,O U 0,φ false]),(w.1.size,26,#[O U key,ψ (some ⟨bq,off,none⟩) l.length cap])] (w.1.size + 1 + 1) p7 (ψ Qt k ct) (Cj key f k) (Cq key f k) ⟨bq,off + r,none⟩ (O U k) u)=>(show Calls prog 150 #[O U key,ψ Qt k ct] u fun e w'=>e = τ (O U (GI key (Cq key f k))) /\ Below u.1.size u w' from by
    obtain ⟨Q2,c2,e2,hl2⟩:=TRow.lies h.2.2.2.1
    rw [lt_] at e2
    injection e2 with e2 e3 e4
    subst e2
    have hc:=LG key Qt (Cq key f k) ct u (by rw [lt_];unfold maxLen;omega) hl2.tris
    rw [lt_] at hc
    exact hc))
   have N0:=hid (show NewK w [(w.1.size + 1,94,#[O U 0,O U 0,O U 0,O U 0,O U 0,O U 0,O U 0,φ false]),(w.1.size,26,#[O U key,ψ (some ⟨bq,off,none⟩) l.length cap])] (w.1.size + 1 + 1) p7 (ψ Qt k ct) (Cj key f k) (Cq key f k) ⟨bq,off + r,none⟩ (O U k) wr.drew from ⟨KP.out.drew,World.ownsRow.drew CR.out,⟨TT.out.1.drew,TT.out.2⟩,Nat.lt_of_lt_of_le hbq KP.out.1.size,hcq⟩)
   have zr:w.1.size + 1 < w.1.size + 1 + 1:=by omega
   obtain ⟨sm,hsm⟩:∃ sm,sm = GI key (Cq key f k):=⟨_,rfl⟩
   rw [<- hsm] at SU
   have HSM:=hid hsm
   clear hsm
   clear hlies TT CR NE KP lt_
   go_upto_region 12 with fail
   obtain ⟨⟨y0,y1,y2⟩,-⟩:=NewK.cells N0.out
   have y0':wr.cell? ⟨w.1.size,0,none⟩ = some (O U key):=y0
   have y1':wr.cell? ⟨w.1.size,1,none⟩ = some (ψ (some ⟨bq,off,none⟩) l.length cap):=y1
   have y2':wr.cell? ⟨bq,off + r,none⟩ = some (O U k):=y2
   clear y0 y1 y2
   go_region_with (go_at_call 150;refine (SU.out _ (NewK.cells N0.out)).mono ?_;rintro e wx ⟨rfl,bx⟩;have nx:=N0.out.below bx;obtain ⟨⟨x0,x1,x2⟩,-⟩:=NewK.cells nx;have r0:wx.cell? ⟨w.1.size + 1,0,none⟩ = some (O U 0):=nx.1.cell (List.mem_cons_self ..) 0;have r1:wx.cell? ⟨w.1.size + 1,1,none⟩ = some (O U 0):=nx.1.cell (List.mem_cons_self ..) 1;have r2:wx.cell? ⟨w.1.size + 1,2,none⟩ = some (O U 0):=nx.1.cell (List.mem_cons_self ..) 2;have r3:wx.cell? ⟨w.1.size + 1,3,none⟩ = some (O U 0):=nx.1.cell (List.mem_cons_self ..) 3;have r4:wx.cell? ⟨w.1.size + 1,4,none⟩ = some (O U 0):=nx.1.cell (List.mem_cons_self ..) 4;have r5:wx.cell? ⟨w.1.size + 1,5,none⟩ = some (O U 0):=nx.1.cell (List.mem_cons_self ..) 5;have r6:wx.cell? ⟨w.1.size + 1,6,none⟩ = some (O U 0):=nx.1.cell (List.mem_cons_self ..) 6;have r7:wx.cell? ⟨w.1.size + 1,7,none⟩ = some (φ false):=nx.1.cell (List.mem_cons_self ..) 7;have h0:=nx.1.frozen (List.mem_cons_self ..) 0;have h1:=nx.1.frozen (List.mem_cons_self ..) 1;have h2:=nx.1.frozen (List.mem_cons_self ..) 2;have h3:=nx.1.frozen (List.mem_cons_self ..) 3;have h4:=nx.1.frozen (List.mem_cons_self ..) 4;have h5:=nx.1.frozen (List.mem_cons_self ..) 5;have h6:=nx.1.frozen (List.mem_cons_self ..) 6;have h7:=nx.1.frozen (List.mem_cons_self ..) 7;have NX:=hid nx;clear nx bx)
   all_goals
    go_wp2_with fail
    obtain ⟨w9,e9,⟨d0,d1,d2,d3,d4,d5,d6,d7⟩,-,hb,hg⟩:=Hi (x0:=O U k) (x1:=O U 0) (x2:=O U 0) (x3:=O U 0) (x4:=O U sm) (x5:=O U 0) (x6:=O U 0) (x7:=φ false) (NX.out.1.at_ (List.mem_cons_self ..)) NX.out.1.1 (by omega)
    rw [e9]
    have R9:=hid ((NX.out.2.1.grown hg (by omega)).mono (show w.1.size <= w.1.size + 1 + 1 by omega))
    clear e9 hg
    exact bodyPost_ret (v:=.tuple #[σ #[O U k,O U 0,O U 0,O U 0,O U sm,O U 0,O U 0,φ false],p7]) (by simp [results,results73,go_sem,d0,d1,d2,d3,d4,d5,d6,d7]) rfl ⟨p7,by rw [HSM.out,Int.toNat_natCast],by rw [Int.toNat_natCast];exact R9.out,hb⟩

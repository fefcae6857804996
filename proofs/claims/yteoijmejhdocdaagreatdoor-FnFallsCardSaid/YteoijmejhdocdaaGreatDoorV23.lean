import Derived.Test.YteoijmejhdocdaaGreatDoorV22
namespace Go.Proofs.YteoijmejhdocdaaGreatDoor.Mx
open Go.ChangeShapes Go.WideShapes Go.ChangeAt Go.RowKit
set_option linter.unusedVariables false
open Go.Lib (hid)
open Go.Proofs.Tryz
set_option maxRecDepth 20000
set_option maxHeartbeats 64000000
open Value renaming int → O, slice → ψ, bool → φ, agg → σ
open IntKind renaming i64 → U
open Ending renaming returned → τ
def FJ (t:Tru):Tru:={ t with failed:=true }
noncomputable def Bc (x:VolN):VolN × Int:=
 if BK x.key x.counts [x.s0,x.s1] x.count < 0 then ({ x with trusts:=x.trusts.map FJ },6)
 else if BK x.key x.counts [x.s0,x.s1] x.count = 0 then ({ x with cells:=x.s0.cells,trusts:=x.s0.trusts },0) else ({ x with cells:=x.s1.cells,trusts:=x.s1.trusts },0)
theorem Gu (key:Int) (l:List Int) (a b:SlN) (n:Int):BK key l [a,b] n = -1 \/ BK key l [a,b] n = 0 \/ BK key l [a,b] n = 1:=by
 unfold BK
 split
 ·rename_i h
  simp only [List.length_cons,List.length_nil] at h
  omega
 ·exact .inl rfl
def DB (L:List Tru) (k:Nat):List Tru:=(L.take k).map FJ ++ L.drop k
theorem JJ (L:List Tru):DB L 0 = L:=by simp [DB]
theorem Ln (L:List Tru):DB L L.length = L.map FJ:=by simp [DB]
theorem Gn (L:List Tru) (k:Nat):(DB L k).length = L.length:=by simp [DB];omega
theorem JT (L:List Tru) (k:Nat) (h:k < L.length):(DB L k).set k (FJ ((DB L k).getD k default)) = DB L (k + 1):=by
 have hl:((L.take k).map FJ).length = k:=by simp;omega
 have hd:L.drop k = L[k] :: L.drop (k + 1):=List.drop_eq_getElem_cons h
 unfold DB
 have e0:((L.take k).map FJ ++ L.drop k).getD k default = L[k]:=by
  rw [List.getD_eq_getElem?_getD,List.getElem?_append_right (by omega),hl,Nat.sub_self,hd,List.getElem?_cons_zero,Option.getD_some]
 rw [e0,List.set_append_right _ _ (by omega),hl,Nat.sub_self,hd,List.set_cons_zero,List.take_succ_eq_append_getElem h,List.map_append,List.append_assoc]
 rfl
theorem Bl.fail {w:World} {base c g:Nat} {L:List Tru} {k:Nat} (h:Bl w base (ψ (some ⟨g,0,none⟩) L.length c) L) (hk:k < L.length):
    Bl (w.setCell ⟨g,k * 8 + 7,none⟩ (φ true)) base (ψ (some ⟨g,0,none⟩) L.length c) (L.set k (FJ (L.getD k default))):=by
 have hb:(k + 1) * 8 <= L.length * 8:=Nat.mul_le_mul_right 8 hk
 have h8:=Cg h (i:=k * 8 + 7) (by omega) (φ true)
 unfold Bl SRow
 rw [List.length_set]
 have e:Af truV (L.set k (FJ (L.getD k default))) = (Af truV L).set (k * 8 + 7) (φ true):=by
  apply List.ext_getElem?
  intro i
  have hlen:(Af truV L).length = L.length * 8:=Ak AD
  rcases Nat.lt_or_ge i (L.length * 8) with hi | hi
  ·rw [Hj AD L k _ hk i hi]
   simp only [List.getElem?_set,hlen]
   by_cases hin:k * 8 <= i /\ i < (k + 1) * 8
   ·rw [if_pos hin]
    obtain ⟨j,rfl⟩:∃ j,i = k * 8 + j:=⟨i - k * 8,by omega⟩
    have hj:j < 8:=by omega
    rw [show k * 8 + j - k * 8 = j by omega]
    have hold:=Fm AD (L:=L) k j hk hj
    rw [hold]
    by_cases h7:j = 7
    ·subst h7
     rw [if_pos rfl,if_pos (by omega)]
     rfl
    ·rw [if_neg (by omega)]
     have:j = 0 \/ j = 1 \/ j = 2 \/ j = 3 \/ j = 4 \/ j = 5 \/ j = 6:=by omega
     rcases this with rfl | rfl | rfl | rfl | rfl | rfl | rfl <;> rfl
   ·rw [if_neg hin,if_neg (by omega)]
  ·rw [List.getElem?_eq_none (by rw [Ak AD,List.length_set];exact hi),List.getElem?_eq_none (by rw [List.length_set,hlen];exact hi)]
 rw [e]
 exact h8
theorem VolO.newBoth {u:World} {base:Nat} {x:VolN} {A B C:Option Addr} {c d e b o sc n0 n1 n2:Nat} {v:World} {B' C':Option Addr} {d' e' N N':Nat} {M:List Ce} {T:List Tru} (h:VolO u base x (σ #[O U x.key,ψ A n0 c,ψ B n1 d,ψ C n2 e,ψ (some ⟨b,o,none⟩) 2 sc,O U x.count])) (hb:Below u.1.size u v) (hC:Bv v N (ψ C' M.length e') M) (hT:Bl v N' (ψ B' T.length d') T) (hN:u.1.size <= N) (hN':u.1.size <= N')
    (hs:Sep (Ae (ψ C' M.length e')) (Ae (ψ B' T.length d'))) (hB:base <= u.1.size):VolO v base { x with cells:=M,trusts:=T } (σ #[O U x.key,ψ A n0 c,ψ B' T.length d',ψ C' M.length e',ψ (some ⟨b,o,none⟩) 2 sc,O U x.count]):=by
 obtain ⟨A2,c2,B2,d2,C2,e2,g,A0,c0,C0,d0,A1,c1,C1,d1,hv,h1,h2,h3,h4,h5,h6,h7,h8,h9,h10,hlt⟩:=h.parts
 have k:=fun {vv:Value} {t size n:Nat} {xs:List Value} (hr:u.ownsRow base t size vv n xs)=>Cm hr (u':=v) fun y hy=>hb.block y (Ax hr y hy).2
 refine ⟨A2,c2,B',d',C',e',g,A0,c0,C0,d0,A1,c1,C1,d1,?_,k h1,AV hT (Nat.le_trans hB hN'),AV hC (Nat.le_trans hB hN),h4,h5.below hb h5.lt,k h6,k h7,k h8,k h9,?_⟩
 ·simp only [Value.agg.injEq,Array.mk.injEq,List.cons.injEq] at hv
  obtain ⟨a1,a2,a3,a4,a5,a6,-⟩:=hv
  rw [a2,a5]
 ·refine Jy (Jy h10 2 _ (fun l hl=>Da (hlt l hl) (fun y hy=>Nat.le_trans hN (Ax hC y hy).1))) 1 _ (fun l hl=>?_)
  rcases Kw hl with hl | rfl
  ·exact Da (hlt l hl) (fun y hy=>Nat.le_trans hN' (Ax hT y hy).1)
  ·exact hs
theorem Ml (x:VolN) (v:Value) (w:World) (hx:x.Short) (hf0:x.s0.Fits) (hf1:x.s1.Fits) (ht:0 < x.trusts.length) (hv:VolR w w.1.size x v):
    Calls prog 93 #[v] w (Ci w (Bc x)):=by
 have CO:=hid (fun (u:World) (hb:Below w.1.size w u)=>Fo x v u hx (hv.grow hb))
 obtain ⟨A,cap,B,tc,C,cc,b,off,sc,rfl,hA,-,-,hbb,h0,h1,-⟩:=hv
 have hsl:DM w w.1.size (some ⟨b,off,none⟩) [x.s0,x.s1]:=by
  intro i hi
  match i,hi with
  | 0,_=>exact ⟨b,off,rfl,hbb,by simpa using h0⟩
  | 1,_=>exact ⟨b,off,rfl,hbb,by simpa using h1⟩
 have CH:=hid (show ∀ (u:World),Below w.1.size w u -> Calls prog 166 #[σ #[O U x.key,ψ A x.counts.length cap],ψ (some ⟨b,off,none⟩) 2 sc,O U x.count] u fun e w'=>e = τ (O U (BK x.key x.counts [x.s0,x.s1] x.count)) /\ Below u.1.size u w' from
  fun u hb=>JC x.key A (some ⟨b,off,none⟩) x.counts cap [x.s0,x.s1] sc x.count u (by have:=hx.1;unfold maxLen;omega) ((hA.below hb (lr _)).more hb.size) (by simp) (hsl.grow hb) (by
   intro i hi
   match i,hi with
   | 0,_=>exact hf0
   | 1,_=>exact hf1))
 have H0:=hid h0
 have H1:=hid h1
 have hx5:=hx.2.2.2.1
 have hx6:=hx.2.2.2.2.1
 have hx7:=hx.2.2.2.2.2.1
 have hx8:=hx.2.2.2.2.2.2
 have hx2:=hx.2.1
 have K0:=hid (show Kept w [(w.1.size + 1,31,#[O U 0,ψ none 0 0,ψ none 0 0,ψ none 0 0,ψ none 0 0,O U 0]),(w.1.size,31,#[O U x.key,ψ A x.counts.length cap,ψ B x.trusts.length tc,ψ C x.cells.length cc,ψ (some ⟨b,off,none⟩) 2 sc,O U x.count])] _ from (((Kept.refl w).put1 _ _ #[O U x.key,ψ A x.counts.length cap,ψ B x.trusts.length tc,ψ C x.cells.length cc,ψ (some ⟨b,off,none⟩) 2 sc,O U x.count] rfl).put1 _ _ #[O U 0,ψ none 0 0,ψ none 0 0,ψ none 0 0,ψ none 0 0,O U 0] (by simp)))
 have hch:=Gu x.key x.counts x.s0 x.s1 x.count
 unfold Bc
 generalize BK x.key x.counts [x.s0,x.s1] x.count = ci at CH hch |-
 clear hsl hA h0 h1 hf0 hf1 hx
 rcases hch with rfl | rfl | rfl
 have z_1:=trivial;rotate_left;have z_2:=trivial;rotate_left;have z_3:=trivial;rotate_left
 all_goals
  first
   | guard_hyp z_1
     rw [if_pos (by decide)]
   | guard_hyp z_2
     rw [if_neg (by decide),if_pos rfl]
   | rw [if_neg (by decide),if_neg (by decide)]
  go_enter func93,ntmps93
  go_wp2_with fail
  refine (CO.out _ K0.out.1).mono ?_;rintro e u1 ⟨vv,rfl,hv,hb1⟩
  have hk1:=K0.out.below hb1
  obtain ⟨A',c',B',d',C',e',b',o',s',rfl,-⟩:=hv.reads
  have hv1:=hv.mono (show w.1.size + 1 + 1 <= _ by simp)
  have hbl:=hv.slotsGet.2.2.2.1
  have lo0:w.1.size + 1 < u1.1.size:=hk1.lt (x:=(w.1.size + 1,31,#[O U 0,ψ none 0 0,ψ none 0 0,ψ none 0 0,ψ none 0 0,O U 0])) (by simp)
  have lo1:w.1.size < u1.1.size:=hk1.lt (x:=(w.1.size,31,#[O U x.key,ψ A x.counts.length cap,ψ B x.trusts.length tc,ψ C x.cells.length cc,ψ (some ⟨b,off,none⟩) 2 sc,O U x.count])) (by simp)
  have hk2:=hk1.put1 u1.1.size 31 #[O U x.key,ψ A' x.counts.length c',ψ B' x.trusts.length d',ψ C' x.cells.length e',ψ (some ⟨b',o',none⟩) 2 s',O U x.count] rfl
  have hv2:=hv1.below ((Below.refl _ _).alloc (lr _) (.cells #[O U x.key,ψ A' x.counts.length c',ψ B' x.trusts.length d',ψ C' x.cells.length e',ψ (some ⟨b',o',none⟩) 2 s',O U x.count] 31))
  have BU0:=hid ((Below.refl u1.1.size u1).alloc (lr _) (.cells #[O U x.key,ψ A' x.counts.length c',ψ B' x.trusts.length d',ψ C' x.cells.length e',ψ (some ⟨b',o',none⟩) 2 s',O U x.count] 31))
  have HU:=hid hv1
  clear hb1 hk1 hv hv1 CO
  go_upto_region 2 with fail
  have bu:=BU0.out
  clear BU0
  generalize World.alloc u1 _ = u2 at hk2 hv2 bu |-
  have BU:=hid bu
  clear bu
  obtain ⟨X0,Y0,X1,Y1,X2,Y2,-⟩:=hk2.rd
  have HV:=hid hv2
  clear hv2
  have KK:=hid hk2
  go_wp2_with fail
  refine (CH.out _ KK.out.1).mono ?_;rintro e u3 ⟨rfl,b3⟩
  have hk3:=KK.out.below b3
  have hv3:=HV.out.below b3
  have bu3:=BU.out.trans (b3.mono (Nat.le_trans BU.out.size (lr _)))
  have lu3:u1.1.size < u3.1.size:=hk3.lt (x:=(u1.1.size,31,#[O U x.key,ψ A' x.counts.length c',ψ B' x.trusts.length d',ψ C' x.cells.length e',ψ (some ⟨b',o',none⟩) 2 s',O U x.count])) (by simp)
  clear b3 KK HV BU CH hk2 X0 Y0 X1 Y1 X2 Y2
  obtain ⟨X0,Y0,X1,Y1,X2,Y2,-⟩:=hk3.rd
  first
   | guard_hyp z_1
     obtain ⟨gt,rfl,hg0,hgu,-⟩:=HU.out.trustsGet ht
   | guard_hyp z_2
     obtain ⟨Bs,ts,Ds,ds,y0,y1,y2,y3,hrw⟩:=H0.out
     have QQ:=hid (show ∀ (u:World),Below w.1.size w u -> (u.cell? ⟨b,off,none⟩ = some (O U x.s0.count) /\ u.cell? ⟨b,off + 1,none⟩ = some (ψ Bs x.s0.trusts.length ts) /\ u.cell? ⟨b,off + 2,none⟩ = some (O U x.s0.mac) /\ u.cell? ⟨b,off + 3,none⟩ = some (ψ Ds x.s0.cells.length ds)) from fun u hu=>⟨(hu.cell (p:=⟨b,_,none⟩) hbb).trans y0,(hu.cell (p:=⟨b,_,none⟩) hbb).trans y1,(hu.cell (p:=⟨b,_,none⟩) hbb).trans y2,(hu.cell (p:=⟨b,_,none⟩) hbb).trans y3⟩)
     have TW:=hid hrw.1
     have CW:=hid hrw.2
     clear y0 y1 y2 y3 hrw
     have BU3:=hid bu3
   | obtain ⟨Bs,ts,Ds,ds,y0,y1,y2,y3,hrw⟩:=H1.out
     have QQ:=hid (show ∀ (u:World),Below w.1.size w u -> (u.cell? ⟨b,off + 4,none⟩ = some (O U x.s1.count) /\ u.cell? ⟨b,off + 4 + 1,none⟩ = some (ψ Bs x.s1.trusts.length ts) /\ u.cell? ⟨b,off + 4 + 2,none⟩ = some (O U x.s1.mac) /\ u.cell? ⟨b,off + 4 + 3,none⟩ = some (ψ Ds x.s1.cells.length ds)) from fun u hu=>⟨(hu.cell (p:=⟨b,_,none⟩) hbb).trans y0,(hu.cell (p:=⟨b,_,none⟩) hbb).trans y1,(hu.cell (p:=⟨b,_,none⟩) hbb).trans y2,(hu.cell (p:=⟨b,_,none⟩) hbb).trans y3⟩)
     have TW:=hid hrw.1
     have CW:=hid hrw.2
     clear y0 y1 y2 y3 hrw
     have BU3:=hid bu3
  have KK:=hid hk3
  first
   | guard_hyp z_1
     have HV:=hid hv3
     clear hk3 hv3 bu3 HU
   | clear bu3 hk3 hv3
  clear X0 Y0 X1 Y1 X2 Y2
  first
   | guard_hyp z_1
     obtain ⟨X0,Y0,X1,Y1,X2,Y2,-⟩:=KK.out.rd
     skip
   | guard_hyp z_2
     have HB9:=hid (Ap u3 (.cells #[] 118))
     have hk3a:=KK.out.alloc (.cells #[] 118)
     have HA:=hid (((CW.out.below hk3a.1 (lr _)).news Au (by omega)))
     have HR:=hid (SRow.made (enc:=ceV) (n:=2) (T:=118) u3 (lr _))
     have hl:(Af ceV x.s0.cells).length = x.s0.cells.length * 2:=Ak Au
     have h1:=DW x.s0.cells
     obtain ⟨q0,q1,q2,q3⟩:=QQ.out _ hk3a.1
     obtain ⟨X0,Y0,X1,Y1,X2,Y2,-⟩:=hk3a.rd
     go_wp2_with (at_builtin;refine Cc rfl _ _ 28 rfl u3.1.size 118 2 16 0 (σ #[O U 0,O U 0]) (ψ (some ⟨u3.1.size,0,none⟩) 0 0) [] Ds x.s0.cells.length ds (Af ceV x.s0.cells) underlying28 Dp rfl (by omega) rfl HR.out rfl hl HA.out h1 (by unfold maxLen;omega) (by omega) (by simp) ?_)
     intro v9 u4 hown hg4 hat4
     have hr9:Bv u4 u3.1.size v9 x.s0.cells:=by first | exact hown | (rw [Nat.zero_add,List.nil_append] at hown;exact hown)
     obtain ⟨C9,c9,rfl,-,-⟩:=hr9.reads Au
     have hb4:Below u3.1.size u3 u4:=bgb HB9.out (g:=u3.1.size) (by simpa [Value.ownBlock] using hg4) (by simp) (lr _)
     have hk4:=KK.out.below hb4
     have bu4:=BU3.out.trans (hb4.mono (Nat.le_of_lt lu3))
     have hlt9:∀ y ∈ Ae (ψ C9 x.s0.cells.length c9),y < u4.1.size:=fun y hy=>(Ax hr9 y hy).2
     have hz4:=hb4.size
     clear hk3a KK BU3 HB9 HA HR hown hg4 hat4 hb4 q0 q1 q2 q3 hl h1 X0 Y0 X1 Y1 X2 Y2
     obtain ⟨X0,Y0,X1,Y1,X2,Y2,-⟩:=hk4.rd
     go_upto_region 10 with fail
     have hg5:=Ai (Aj u4 (some u1.1.size)) 3 (ψ C9 x.s0.cells.length c9)
     have hk5:Kept w [(u1.1.size,31,#[O U x.key,ψ A' x.counts.length c',ψ B' x.trusts.length d',ψ C9 x.s0.cells.length c9,ψ (some ⟨b',o',none⟩) 2 s',O U x.count]),(w.1.size + 1,31,#[O U 0,ψ none 0 0,ψ none 0 0,ψ none 0 0,ψ none 0 0,O U 0]),(w.1.size,31,#[O U x.key,ψ A x.counts.length cap,ψ B x.trusts.length tc,ψ C x.cells.length cc,ψ (some ⟨b,off,none⟩) 2 sc,O U x.count])] _:=hk4.put (k:=0) rfl (by unfold Apart;simp;omega) hg5 ((hk4.at_ (p:=u1.1.size) (t:=31) (cs:=#[O U x.key,ψ A' x.counts.length c',ψ B' x.trusts.length d',ψ C' x.cells.length e',ψ (some ⟨b',o',none⟩) 2 s',O U x.count]) (by simp)).set_ 3 _)
     have hr5:=hr9.grown hg5 lu3
     have bu5:=bgb bu4 hg5 (Nat.le_trans (Nat.le_of_lt lu3) hz4) (lr _)
     have hz5:=hg5.size
     clear hr9 bu4 hg5
     clear hk4 X0 Y0 X1 Y1 X2 Y2
     generalize World.setCell u4 _ _ = u5 at hk5 hr5 bu5 hz5 |-
     obtain ⟨X0,Y0,X1,Y1,X2,Y2,-⟩:=hk5.rd
     obtain ⟨q0,q1,q2,q3⟩:=QQ.out _ hk5.1
     have TR5:=hid ((TW.out.below hk5.1 (lr _)).more hk5.1.size)
     have KK:=hid hk5
     have HR5:=hid hr5
     have BU5:=hid bu5
     clear hk5 hr5 bu5
   | have HB9:=hid (Ap u3 (.cells #[] 118))
     have hk3a:=KK.out.alloc (.cells #[] 118)
     have HA:=hid (((CW.out.below hk3a.1 (lr _)).news Au (by omega)))
     have HR:=hid (SRow.made (enc:=ceV) (n:=2) (T:=118) u3 (lr _))
     have hl:(Af ceV x.s1.cells).length = x.s1.cells.length * 2:=Ak Au
     have h1:=DW x.s1.cells
     obtain ⟨q0,q1,q2,q3⟩:=QQ.out _ hk3a.1
     obtain ⟨X0,Y0,X1,Y1,X2,Y2,-⟩:=hk3a.rd
     go_wp2_with (at_builtin;refine Cc rfl _ _ 28 rfl u3.1.size 118 2 16 0 (σ #[O U 0,O U 0]) (ψ (some ⟨u3.1.size,0,none⟩) 0 0) [] Ds x.s1.cells.length ds (Af ceV x.s1.cells) underlying28 Dp rfl (by omega) rfl HR.out rfl hl HA.out h1 (by unfold maxLen;omega) (by omega) (by simp) ?_)
     intro v9 u4 hown hg4 hat4
     have hr9:Bv u4 u3.1.size v9 x.s1.cells:=by first | exact hown | (rw [Nat.zero_add,List.nil_append] at hown;exact hown)
     obtain ⟨C9,c9,rfl,-,-⟩:=hr9.reads Au
     have hb4:Below u3.1.size u3 u4:=bgb HB9.out (g:=u3.1.size) (by simpa [Value.ownBlock] using hg4) (by simp) (lr _)
     have hk4:=KK.out.below hb4
     have bu4:=BU3.out.trans (hb4.mono (Nat.le_of_lt lu3))
     have hlt9:∀ y ∈ Ae (ψ C9 x.s1.cells.length c9),y < u4.1.size:=fun y hy=>(Ax hr9 y hy).2
     have hz4:=hb4.size
     clear hk3a KK BU3 HB9 HA HR hown hg4 hat4 hb4 q0 q1 q2 q3 hl h1 X0 Y0 X1 Y1 X2 Y2
     obtain ⟨X0,Y0,X1,Y1,X2,Y2,-⟩:=hk4.rd
     go_upto_region 10 with fail
     have hg5:=Ai (Aj u4 (some u1.1.size)) 3 (ψ C9 x.s1.cells.length c9)
     have hk5:Kept w [(u1.1.size,31,#[O U x.key,ψ A' x.counts.length c',ψ B' x.trusts.length d',ψ C9 x.s1.cells.length c9,ψ (some ⟨b',o',none⟩) 2 s',O U x.count]),(w.1.size + 1,31,#[O U 0,ψ none 0 0,ψ none 0 0,ψ none 0 0,ψ none 0 0,O U 0]),(w.1.size,31,#[O U x.key,ψ A x.counts.length cap,ψ B x.trusts.length tc,ψ C x.cells.length cc,ψ (some ⟨b,off,none⟩) 2 sc,O U x.count])] _:=hk4.put (k:=0) rfl (by unfold Apart;simp;omega) hg5 ((hk4.at_ (p:=u1.1.size) (t:=31) (cs:=#[O U x.key,ψ A' x.counts.length c',ψ B' x.trusts.length d',ψ C' x.cells.length e',ψ (some ⟨b',o',none⟩) 2 s',O U x.count]) (by simp)).set_ 3 _)
     have hr5:=hr9.grown hg5 lu3
     have bu5:=bgb bu4 hg5 (Nat.le_trans (Nat.le_of_lt lu3) hz4) (lr _)
     have hz5:=hg5.size
     clear hr9 bu4 hg5
     clear hk4 X0 Y0 X1 Y1 X2 Y2
     generalize World.setCell u4 _ _ = u5 at hk5 hr5 bu5 hz5 |-
     obtain ⟨X0,Y0,X1,Y1,X2,Y2,-⟩:=hk5.rd
     obtain ⟨q0,q1,q2,q3⟩:=QQ.out _ hk5.1
     have TR5:=hid ((TW.out.below hk5.1 (lr _)).more hk5.1.size)
     have KK:=hid hk5
     have HR5:=hid hr5
     have BU5:=hid bu5
     clear hk5 hr5 bu5
  go_wp2_with fail
  first
   | guard_hyp z_1
     go_loopw [6] (fun i u=>∃ k:Nat,k <= x.trusts.length /\ i = O U k /\ Kept w [(u1.1.size,31,#[O U x.key,ψ A' x.counts.length c',ψ (some ⟨gt,0,none⟩) x.trusts.length d',ψ C' x.cells.length e',ψ (some ⟨b',o',none⟩) 2 s',O U x.count]),(w.1.size + 1,31,#[O U 0,ψ none 0 0,ψ none 0 0,ψ none 0 0,ψ none 0 0,O U 0]),(w.1.size,31,#[O U x.key,ψ A x.counts.length cap,ψ B x.trusts.length tc,ψ C x.cells.length cc,ψ (some ⟨b,off,none⟩) 2 sc,O U x.count])] u /\ VolO u (w.1.size + 1 + 1) { x with trusts:=DB x.trusts k } (σ #[O U x.key,ψ A' x.counts.length c',ψ (some ⟨gt,0,none⟩) x.trusts.length d',ψ C' x.cells.length e',ψ (some ⟨b',o',none⟩) 2 s',O U x.count])) (fun i _=>x.trusts.length - (intOf i).toNat)
     case atStart=>exact ⟨0,by omega,rfl,KK.out,by rw [JJ];exact HV.out⟩
     case round=>
      obtain ⟨k,hk,rfl,hkp,hvp⟩:=hrel
      clear X0 Y0 X1 Y1 X2 Y2
      clear KK HV
      obtain ⟨X0,Y0,X1,Y1,X2,Y2,-⟩:=hkp.rd
      by_cases hlt:k < x.trusts.length
      ·obtain ⟨g1,e1,-,-,hrow,hset⟩:=hvp.trustsGet (by rw [Gn];exact ht)
       injection e1 with e1;injection e1 with e1;subst e1
       have hl:=Gn x.trusts k
       have hlt2:k < (DB x.trusts k).length:=by omega
       have hfz:=Dw hrow
       obtain ⟨p0,p1,p2,p3,p4,p5,p6,p7⟩:=hrow.here hlt2
       have hlt':(k:Int) < x.trusts.length:=by omega
       have hk0':(0:Int) <= k:=by omega
       have hr5:=hrow.fail hlt2
       have hg5:=Ai (Aj wr (some gt)) (k * 8 + 7) (φ true)
       have hv5:=hset (wr.setCell ⟨gt,k * 8 + 7,none⟩ (φ true)) ((DB x.trusts k).set k (FJ ((DB x.trusts k).getD k default))) (by simp) hg5 (by rw [List.length_set];exact hr5)
       have hk5:=hkp.grown hg5 (by omega) (by intro y hy;simp at hy;rcases hy with rfl | rfl | rfl <;> simp <;> omega)
       have HV5:=hid hv5
       have HK5:=hid hk5
       have HL:=hid hl
       clear hv5 hk5 hr5 hg5 hset hrow hvp hkp p0 p1 p2 p3 p4 p5 p6 hl hlt2
       go_wp2_with fail
       go_roundw
       case rel=>exact ⟨k + 1,by omega,by go_num,HK5.out,by rw [<- JT x.trusts k hlt];exact HV5.out⟩
       case measure=>simp [intOf];omega
      ·obtain rfl:k = x.trusts.length:=by omega
       rw [Ln] at hvp
       have HV:=hid hvp
       have KK:=hid hkp
       clear hvp hkp
       go_wp2_with fail
       obtain ⟨w9,e9,⟨d0,d1,d2,d3,d4,d5⟩,hb9,hg9⟩:=AN (w:=w) (x0:=O U x.key) (x1:=ψ A' x.counts.length c') (x2:=ψ (some ⟨gt,0,none⟩) x.trusts.length d') (x3:=ψ C' x.cells.length e') (x4:=ψ (some ⟨b',o',none⟩) 2 s') (x5:=O U x.count) (KK.out.at_ (p:=w.1.size + 1) (t:=31) (cs:=#[O U 0,ψ none 0 0,ψ none 0 0,ψ none 0 0,ψ none 0 0,O U 0]) (by simp)) KK.out.1 (by omega)
       rw [e9]
       exact bodyPost_ret (v:=.tuple #[σ #[O U x.key,ψ A' x.counts.length c',ψ (some ⟨gt,0,none⟩) x.trusts.length d',ψ C' x.cells.length e',ψ (some ⟨b',o',none⟩) 2 s',O U x.count],O U 6]) (by simp [results,results93,go_sem,d0,d1,d2,d3,d4,d5]) rfl ⟨_,rfl,(HV.out.out hg9 (by omega)).mono (by omega),hb9⟩
   | guard_hyp z_2
     refine (Em Bs x.s0.trusts ts _ (by omega) TR5.out).mono ?_;rintro e u6 ⟨v10,rfl,hr10,b6⟩
     obtain ⟨B9,d9,rfl,-,-⟩:=hr10.reads AD
     have hk6:=KK.out.below b6
     have hr6:=HR5.out.below b6
     have lu5:u1.1.size < u5.1.size:=by omega
     have bu6:=BU5.out.trans (b6.mono (Nat.le_of_lt lu5))
     clear KK HR5 BU5 b6 TR5 q0 q1 q2 q3 X0 Y0 X1 Y1 X2 Y2
     obtain ⟨X0,Y0,X1,Y1,X2,Y2,-⟩:=hk6.rd
     go_upto_region 11 with fail
     have hg7:=Ai (Aj u6 (some u1.1.size)) 2 (ψ B9 x.s0.trusts.length d9)
     have hk7:Kept w [(u1.1.size,31,#[O U x.key,ψ A' x.counts.length c',ψ B9 x.s0.trusts.length d9,ψ C9 x.s0.cells.length c9,ψ (some ⟨b',o',none⟩) 2 s',O U x.count]),(w.1.size + 1,31,#[O U 0,ψ none 0 0,ψ none 0 0,ψ none 0 0,ψ none 0 0,O U 0]),(w.1.size,31,#[O U x.key,ψ A x.counts.length cap,ψ B x.trusts.length tc,ψ C x.cells.length cc,ψ (some ⟨b,off,none⟩) 2 sc,O U x.count])] _:=hk6.put (k:=0) rfl (by unfold Apart;simp;omega) hg7 ((hk6.at_ (p:=u1.1.size) (t:=31) (cs:=#[O U x.key,ψ A' x.counts.length c',ψ B' x.trusts.length d',ψ C9 x.s0.cells.length c9,ψ (some ⟨b',o',none⟩) 2 s',O U x.count]) (by simp)).set_ 2 _)
     have hr7:=hr6.grown hg7 lu3
     have ht7:=hr10.grown hg7 lu5
     have bu7:=bgb bu6 hg7 bu6.size (lr _)
     have hs:=Da hlt9 (fun y hy=>Nat.le_trans hz5 (Ax hr10 y hy).1)
     have hv7:=HU.out.newBoth bu7 hr7 ht7 (Nat.le_of_lt lu3) (Nat.le_of_lt lu5) hs (by omega)
     clear hg7 hr6 hr10 bu6 hs hr7 ht7 bu7
     clear hk6 X0 Y0 X1 Y1 X2 Y2
     generalize World.setCell u6 _ _ = u7 at hk7 hv7 |-
     obtain ⟨X0,Y0,X1,Y1,X2,Y2,-⟩:=hk7.rd
     have HV:=hid hv7
     have KK:=hid hk7
     clear hv7 hk7 HU
     go_wp2_with fail
     obtain ⟨w9,e9,⟨d0,d1,d2,d3,d4,d5⟩,hb9,hg9⟩:=AN (w:=w) (x0:=O U x.key) (x1:=ψ A' x.counts.length c') (x2:=ψ B9 x.s0.trusts.length d9) (x3:=ψ C9 x.s0.cells.length c9) (x4:=ψ (some ⟨b',o',none⟩) 2 s') (x5:=O U x.count) (KK.out.at_ (p:=w.1.size + 1) (t:=31) (cs:=#[O U 0,ψ none 0 0,ψ none 0 0,ψ none 0 0,ψ none 0 0,O U 0]) (by simp)) KK.out.1 (by omega)
     rw [e9]
     exact bodyPost_ret (v:=.tuple #[σ #[O U x.key,ψ A' x.counts.length c',ψ B9 x.s0.trusts.length d9,ψ C9 x.s0.cells.length c9,ψ (some ⟨b',o',none⟩) 2 s',O U x.count],O U 0]) (by simp [results,results93,go_sem,d0,d1,d2,d3,d4,d5]) rfl ⟨_,rfl,(HV.out.out hg9 (by omega)).mono (by omega),hb9⟩
   | refine (Em Bs x.s1.trusts ts _ (by omega) TR5.out).mono ?_;rintro e u6 ⟨v10,rfl,hr10,b6⟩
     obtain ⟨B9,d9,rfl,-,-⟩:=hr10.reads AD
     have hk6:=KK.out.below b6
     have hr6:=HR5.out.below b6
     have lu5:u1.1.size < u5.1.size:=by omega
     have bu6:=BU5.out.trans (b6.mono (Nat.le_of_lt lu5))
     clear KK HR5 BU5 b6 TR5 q0 q1 q2 q3 X0 Y0 X1 Y1 X2 Y2
     obtain ⟨X0,Y0,X1,Y1,X2,Y2,-⟩:=hk6.rd
     go_upto_region 11 with fail
     have hg7:=Ai (Aj u6 (some u1.1.size)) 2 (ψ B9 x.s1.trusts.length d9)
     have hk7:Kept w [(u1.1.size,31,#[O U x.key,ψ A' x.counts.length c',ψ B9 x.s1.trusts.length d9,ψ C9 x.s1.cells.length c9,ψ (some ⟨b',o',none⟩) 2 s',O U x.count]),(w.1.size + 1,31,#[O U 0,ψ none 0 0,ψ none 0 0,ψ none 0 0,ψ none 0 0,O U 0]),(w.1.size,31,#[O U x.key,ψ A x.counts.length cap,ψ B x.trusts.length tc,ψ C x.cells.length cc,ψ (some ⟨b,off,none⟩) 2 sc,O U x.count])] _:=hk6.put (k:=0) rfl (by unfold Apart;simp;omega) hg7 ((hk6.at_ (p:=u1.1.size) (t:=31) (cs:=#[O U x.key,ψ A' x.counts.length c',ψ B' x.trusts.length d',ψ C9 x.s1.cells.length c9,ψ (some ⟨b',o',none⟩) 2 s',O U x.count]) (by simp)).set_ 2 _)
     have hr7:=hr6.grown hg7 lu3
     have ht7:=hr10.grown hg7 lu5
     have bu7:=bgb bu6 hg7 bu6.size (lr _)
     have hs:=Da hlt9 (fun y hy=>Nat.le_trans hz5 (Ax hr10 y hy).1)
     have hv7:=HU.out.newBoth bu7 hr7 ht7 (Nat.le_of_lt lu3) (Nat.le_of_lt lu5) hs (by omega)
     clear hg7 hr6 hr10 bu6 hs hr7 ht7 bu7
     clear hk6 X0 Y0 X1 Y1 X2 Y2
     generalize World.setCell u6 _ _ = u7 at hk7 hv7 |-
     obtain ⟨X0,Y0,X1,Y1,X2,Y2,-⟩:=hk7.rd
     have HV:=hid hv7
     have KK:=hid hk7
     clear hv7 hk7 HU
     go_wp2_with fail
     obtain ⟨w9,e9,⟨d0,d1,d2,d3,d4,d5⟩,hb9,hg9⟩:=AN (w:=w) (x0:=O U x.key) (x1:=ψ A' x.counts.length c') (x2:=ψ B9 x.s1.trusts.length d9) (x3:=ψ C9 x.s1.cells.length c9) (x4:=ψ (some ⟨b',o',none⟩) 2 s') (x5:=O U x.count) (KK.out.at_ (p:=w.1.size + 1) (t:=31) (cs:=#[O U 0,ψ none 0 0,ψ none 0 0,ψ none 0 0,ψ none 0 0,O U 0]) (by simp)) KK.out.1 (by omega)
     rw [e9]
     exact bodyPost_ret (v:=.tuple #[σ #[O U x.key,ψ A' x.counts.length c',ψ B9 x.s1.trusts.length d9,ψ C9 x.s1.cells.length c9,ψ (some ⟨b',o',none⟩) 2 s',O U x.count],O U 0]) (by simp [results,results93,go_sem,d0,d1,d2,d3,d4,d5]) rfl ⟨_,rfl,(HV.out.out hg9 (by omega)).mono (by omega),hb9⟩
theorem DU {P:Program} {ρ:Operand -> Value} {o:Oper} {t:TypeId} {x y:Operand} {w:World} {K:Value -> World -> Prop} {p off:Nat} {T:TypeId} {old:Array Value} {a b c d:Value}
    (hc:Aa w p T old) (hsz:off + 4 <= old.size) (hop:o.op = .store t x y) (hx:ρ x = .pointer (some ⟨p,off,none⟩)) (hy:ρ y = σ #[a,b,c,d]) (hi:(P.info? t).map (·.size) = some 4) (h1:(#[a,b,c,d]:Array Value).all (·.oneCell') = true)
    (h:∀ w',Aa w' p T ((((old.setIfInBounds off a).setIfInBounds (off + 1) b).setIfInBounds (off + 2) c).setIfInBounds (off + 3) d) -> w.grownBy w' (some p) -> K undef w'):Bt P ((execOp ρ o).run P w) K:=by
 have e:=run_storeAt_mid (P:=P) w p off t #[a,b,c,d] (fun j hj=>⟨by rw [hc.cell];simp at hj;simp;omega,hc.frozen _⟩) hi h1
 have e2:(execOp ρ o).run P w = .ok .skip (w.setCells p off [a,b,c,d]):=by
  unfold execOp
  rw [hop]
  simp only [hx,hy,Sem.run_bind,e,Result.andThen_ok,Sem.run_pure]
 rw [e2]
 exact h _ ((((hc.set_ off a).set_ (off + 1) b).set_ (off + 2) c).set_ (off + 3) d) (Ai (Ai (Ai (Ai (Aj w (some p)) off a) (off + 1) b) (off + 2) c) (off + 3) d)
def Eh (b w0:World) (L:List Box) (M:List Ce) (p:Nat) (T:TypeId) (old:Array Value) (V:Value -> Array Value) (D:Nat -> Bool) (γ:Nat -> Value) (u:World):Prop:=
 Kept b L u /\ w0.grownBy u (some p) /\ (D 13 = false -> Aa u p T old) /\ (D 13 = true -> Aa u p T (V (γ 10))) /\ (D 7 = true -> D 10 = false -> Bv u w0.1.size (γ 7) []) /\ (D 10 = true -> Bv u w0.1.size (γ 10) M) /\ (D 10 = true -> D 7 = true) /\ (D 13 = true -> D 10 = true)
theorem Jd {a u v:World} {r:Option Nat} {g:Nat} (h:a.grownBy u r) (hg:u.grownBy v (some g)) (hn:a.1.size <= g):a.grownBy v r:=
 ⟨hg.os.trans h.os,hg.tape.trans h.tape,hg.output.trans h.output,Nat.le_trans h.size hg.size,fun i hi hr=>(hg.block i (Nat.lt_of_lt_of_le hi h.size) (by intro e;injection e with e;omega)).trans (h.block i hi hr)⟩
section
variable {b w0 u v:World} {p:Nat} {L:List Box} {M:List Ce} {T:TypeId} {old:Array Value} {V:Value -> Array Value} {D:Nat -> Bool} {γ γ':Nat -> Value}
theorem CQ {D:Nat -> Bool} {i:Nat}:setD D i i = true:=by simp [setD]
theorem An {D:Nat -> Bool} {i j:Nat} (h:j ≠ i):setD D i j = D j:=by simp [setD,h]
theorem By {γ:Nat -> Value} {i:Nat} {w:Value}:setG γ i w i = w:=by simp [setG]
theorem At {γ:Nat -> Value} {i j:Nat} {w:Value} (h:j ≠ i):setG γ i w j = γ j:=by simp [setG,h]
theorem Eh.loc (ha:∀ i,D i = true -> γ i = γ' i) (h:Eh b w0 L M p T old V D γ u):Eh b w0 L M p T old V D γ' u:=by
 obtain ⟨h1,h2,h3,h4,h5,h6,h7,h8⟩:=h
 refine ⟨h1,h2,h3,fun e=>?_,fun e e'=>?_,fun e=>?_,h7,h8⟩
 ·rw [<- ha 10 (h8 e)];exact h4 e
 ·rw [<- ha 7 e];exact h5 e e'
 ·rw [<- ha 10 e];exact h6 e
theorem Eh.start (h:Kept b L u) (hc:Aa u p T old):Eh b u L M p T old V (fun _=>false) γ u.drew:=
 ⟨h.drew,Fi (Aj u (some p)),fun _=>hc,fun e=>by (cases e),fun e=>by (cases e),fun e=>by (cases e),fun e=>by (cases e),fun e=>by (cases e)⟩
theorem Eh.build (h:Eh b w0 L M p T old V D γ u) (hD:D 7 = false) (hp:p < w0.1.size):Eh b w0 L M p T old V (setD D 7) (setG γ 7 (ψ (some ⟨u.1.size,0,none⟩) 0 0)) (u.alloc (.cells #[] 118)):=by
 obtain ⟨h1,h2,h3,h4,h5,h6,h7,h8⟩:=h
 have d10:D 10 = false:=by cases e:D 10 with | false=>rfl | true=>rw [h7 e] at hD;cases hD
 have d13:D 13 = false:=by cases e:D 13 with | false=>rfl | true=>rw [h8 e] at d10;cases d10
 have hb:=Ap u (.cells #[] 118)
 refine ⟨h1.alloc _,AZ h2 _,fun _=>(h3 d13).below hb (Nat.lt_of_lt_of_le hp h2.size),fun e=>?_,fun _ _=>?_,fun e=>?_,fun _=>CQ,fun e=>?_⟩
 ·rw [An (by omega),d13] at e;cases e
 ·rw [By];exact SRow.made u h2.size
 ·rw [An (by omega),d10] at e;cases e
 ·rw [An (by omega),d13] at e;cases e
theorem Eh.append (h:Eh b w0 L M p T old V D γ u) (h7':D 7 = true) (hD:D 10 = false) (hp:p < w0.1.size) (hL:∀ x ∈ L,x.1 < w0.1.size) (hb0:b.1.size <= w0.1.size) {g:Nat} (hg7:γ 7 = ψ (some ⟨g,0,none⟩) 0 0) {v':Value} (hr:Bv v w0.1.size v' M) (hg:u.grownBy v (some g)):Eh b w0 L M p T old V (setD D 10) (setG γ 10 v') v:=by
 obtain ⟨h1,h2,h3,h4,h5,h6,h7,h8⟩:=h
 have d13:D 13 = false:=by cases e:D 13 with | false=>rfl | true=>rw [h8 e] at hD;cases hD
 have hgn:w0.1.size <= g:=by have h:=h5 h7' hD;rw [hg7] at h;exact (SRow.lt h rfl).1
 refine ⟨h1.grown hg (by omega) (fun x hx=>by have:=hL x hx;omega),Jd h2 hg hgn,fun _=>(h3 d13).grown hg (by intro e;injection e;omega),fun e=>?_,fun _ e=>?_,fun _=>?_,fun _=>?_,fun _=>CQ⟩
 ·rw [An (by omega),d13] at e;cases e
 ·rw [CQ] at e;cases e
 ·rw [By];exact hr
 ·rw [An (by omega)];exact h7'
theorem Eh.store (h:Eh b w0 L M p T old V D γ u) (hd:D 10 = true) (hp:p < w0.1.size) (hb0:b.1.size <= p) (hL:∀ x ∈ L,x.1 ≠ p) (hg:u.grownBy v (some p)) (hc:Aa v p T (V (γ 10))) {w:Value}:Eh b w0 L M p T old V (setD D 13) (setG γ 13 w) v:=by
 obtain ⟨h1,h2,h3,h4,h5,h6,h7,h8⟩:=h
 refine ⟨h1.grown hg hb0 hL,Ar h2 hg,fun e=>?_,fun _=>?_,fun _ e=>?_,fun _=>?_,fun _=>?_,fun _=>?_⟩
 ·rw [CQ] at e;cases e
 ·rw [At (by omega)];exact hc
 ·rw [An (by omega),hd] at e;cases e
 ·rw [At (by omega)];exact (h6 hd).grown hg hp
 ·rw [An (by omega)];exact h7 hd
 ·rw [An (by omega)];exact hd
end

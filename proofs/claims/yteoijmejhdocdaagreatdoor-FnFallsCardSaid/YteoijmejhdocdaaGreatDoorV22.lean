import Derived.Test.YteoijmejhdocdaaGreatDoorV21
namespace Go.Proofs.YteoijmejhdocdaaGreatDoor.Mx
open Go.ChangeShapes Go.WideShapes Go.ChangeAt Go.RowKit
set_option linter.unusedVariables false
open Go.Lib (hid)
open Go.Proofs.Tryz
set_option maxRecDepth 20000
set_option maxHeartbeats 64000000
open Value renaming int → O, slice → ψ, bool → φ, agg → σ
open IntKind renaming i64 → U
def Sep (a b:List Nat):Prop:=∀ y ∈ a,y ∉ b
theorem Sep.symm {a b:List Nat} (h:Sep a b):Sep b a:=fun y hy ha=>h y ha hy
theorem Jy {l:List (List Nat)} (h:l.Pairwise Sep) (i:Nat) (a:List Nat) (ha:∀ x ∈ l,Sep x a):(l.set i a).Pairwise Sep:=by
 induction l generalizing i with
 | nil=>simp
 | cons b t ih=>
   rw [List.pairwise_cons] at h
   cases i with
   | zero=>rw [List.set_cons_zero,List.pairwise_cons];exact ⟨fun y hy=>(ha y (List.mem_cons_of_mem _ hy)).symm,h.2⟩
   | succ i=>
     rw [List.set_cons_succ,List.pairwise_cons]
     refine ⟨fun y hy=>?_,ih h.2 i (fun y hy=>ha y (List.mem_cons_of_mem _ hy))⟩
     rcases List.mem_or_eq_of_mem_set hy with hy | rfl
     ·exact h.1 y hy
     ·exact ha b (List.mem_cons_self ..)
theorem Kw {l:List (List Nat)} {i:Nat} {a x:List Nat} (h:x ∈ l.set i a):x ∈ l \/ x = a:=List.mem_or_eq_of_mem_set h
theorem Fo (x:VolN) (v:Value) (w:World) (hx:x.Short) (hv:VolR w w.1.size x v):Calls prog 99 #[v] w (PQ w x):=by
 obtain ⟨A,cap,B,tc,C,cc,b,off,sc,rfl,hA,hB,hC,hbb,h0,h1,hcap⟩:=hv
 exact Dy x A cap B tc C cc b off sc w hx hA hB hC hbb h0 h1
theorem VolO.parts {u:World} {base:Nat} {x:VolN} {v:Value} (h:VolO u base x v):
    ∃ A c B d C e g A0 c0 C0 d0 A1 c1 C1 d1,v = σ #[O U x.key,ψ A x.counts.length c,ψ B x.trusts.length d,ψ C x.cells.length e,ψ (some ⟨g,0,none⟩) 2 2,O U x.count] /\
    IRow u base (ψ A x.counts.length c) x.counts /\ Bl u base (ψ B x.trusts.length d) x.trusts /\ Bv u base (ψ C x.cells.length e) x.cells /\ base <= g /\
    Aa u g 91 #[O U x.s0.count,ψ A0 x.s0.trusts.length c0,O U x.s0.mac,ψ C0 x.s0.cells.length d0,O U x.s1.count,ψ A1 x.s1.trusts.length c1,O U x.s1.mac,ψ C1 x.s1.cells.length d1] /\
    Bl u base (ψ A0 x.s0.trusts.length c0) x.s0.trusts /\ Bv u base (ψ C0 x.s0.cells.length d0) x.s0.cells /\ Bl u base (ψ A1 x.s1.trusts.length c1) x.s1.trusts /\ Bv u base (ψ C1 x.s1.cells.length d1) x.s1.cells /\
    [Ae (ψ A x.counts.length c),Ae (ψ B x.trusts.length d),Ae (ψ C x.cells.length e),[g],Ae (ψ A0 x.s0.trusts.length c0),Ae (ψ C0 x.s0.cells.length d0),Ae (ψ A1 x.s1.trusts.length c1),Ae (ψ C1 x.s1.cells.length d1)].Pairwise Sep /\
    ∀ l ∈ [Ae (ψ A x.counts.length c),Ae (ψ B x.trusts.length d),Ae (ψ C x.cells.length e),[g],Ae (ψ A0 x.s0.trusts.length c0),Ae (ψ C0 x.s0.cells.length d0),Ae (ψ A1 x.s1.trusts.length c1),Ae (ψ C1 x.s1.cells.length d1)],∀ y ∈ l,y < u.1.size:=by
 obtain ⟨A,c,B,d,C,e,g,A0,c0,C0,d0,A1,c1,C1,d1,h0,h1,h2,h3,h4,h5,h6,h7,h8,h9,h10⟩:=h
 refine ⟨A,c,B,d,C,e,g,A0,c0,C0,d0,A1,c1,C1,d1,h0,h1,h2,h3,h4,h5,h6,h7,h8,h9,h10,?_⟩
 intro l hl y hy
 simp only [List.mem_cons,List.not_mem_nil,or_false] at hl
 rcases hl with rfl | rfl | rfl | rfl | rfl | rfl | rfl | rfl
 ·exact (Ax h1 y hy).2
 ·exact (Ax h2 y hy).2
 ·exact (Ax h3 y hy).2
 ·rw [List.mem_singleton] at hy;subst hy;exact h5.lt
 ·exact (Ax h6 y hy).2
 ·exact (Ax h7 y hy).2
 ·exact (Ax h8 y hy).2
 ·exact (Ax h9 y hy).2
theorem Da {l a:List Nat} {N:Nat} (hl:∀ y ∈ l,y < N) (ha:∀ y ∈ a,N <= y):Sep l a:=fun y hy hm=>by have:=hl y hy;have:=ha y hm;omega
theorem Lv {w:World} {g:Nat} {t:TypeId} {cs ds:Array Value} (h:Aa w g t cs) (k:Aa w g t ds):cs = ds:=by
 unfold Aa at h k
 rw [h] at k
 injection k with k
 injection k
theorem VolO.cnt {u:World} {base:Nat} {x:VolN} {A B C:Option Addr} {c d e b o sc n0 n1 n2:Nat} (h:VolO u base x (σ #[O U x.key,ψ A n0 c,ψ B n1 d,ψ C n2 e,ψ (some ⟨b,o,none⟩) 2 sc,O U x.count])) (n:Int):VolO u base { x with count:=n } (σ #[O U x.key,ψ A n0 c,ψ B n1 d,ψ C n2 e,ψ (some ⟨b,o,none⟩) 2 sc,O U n]):=by
 obtain ⟨A2,c2,B2,d2,C2,e2,g,A0,c0,C0,d0,A1,c1,C1,d1,hv,h1,h2,h3,h4,h5,h6,h7,h8,h9,h10⟩:=h
 refine ⟨A2,c2,B2,d2,C2,e2,g,A0,c0,C0,d0,A1,c1,C1,d1,?_,h1,h2,h3,h4,h5,h6,h7,h8,h9,h10⟩
 simp only [Value.agg.injEq,Array.mk.injEq,List.cons.injEq] at hv
 obtain ⟨a1,a2,a3,a4,a5,a6,-⟩:=hv
 rw [a2,a3,a4,a5]
theorem VolO.slotsGet {u:World} {base:Nat} {x:VolN} {A B C:Option Addr} {c d e b o sc n0 n1 n2:Nat} (h:VolO u base x (σ #[O U x.key,ψ A n0 c,ψ B n1 d,ψ C n2 e,ψ (some ⟨b,o,none⟩) 2 sc,O U x.count])):o = 0 /\ sc = 2 /\ base <= b /\ b < u.1.size /\ ∃ A0 c0 C0 d0 A1 c1 C1 d1,
    Aa u b 91 #[O U x.s0.count,ψ A0 x.s0.trusts.length c0,O U x.s0.mac,ψ C0 x.s0.cells.length d0,O U x.s1.count,ψ A1 x.s1.trusts.length c1,O U x.s1.mac,ψ C1 x.s1.cells.length d1] /\
    ∀ (u':World) (k0 m0 k1 m1:Int),u.grownBy u' (some b) -> Aa u' b 91 #[O U k0,ψ A0 x.s0.trusts.length c0,O U m0,ψ C0 x.s0.cells.length d0,O U k1,ψ A1 x.s1.trusts.length c1,O U m1,ψ C1 x.s1.cells.length d1] ->
      VolO u' base { x with s0:={ x.s0 with count:=k0,mac:=m0 },s1:={ x.s1 with count:=k1,mac:=m1 } } (σ #[O U x.key,ψ A n0 c,ψ B n1 d,ψ C n2 e,ψ (some ⟨b,o,none⟩) 2 sc,O U x.count]):=by
 obtain ⟨A2,c2,B2,d2,C2,e2,g,A0,c0,C0,d0,A1,c1,C1,d1,hv,h1,h2,h3,h4,h5,h6,h7,h8,h9,h10,hlt⟩:=h.parts
 have hv':=hv
 simp only [Value.agg.injEq,Array.mk.injEq,List.cons.injEq] at hv
 obtain ⟨a1,a2,a3,a4,a5,a6,-⟩:=hv
 simp only [Value.slice.injEq,Option.some.injEq,Addr.mk.injEq] at a5
 obtain ⟨⟨rfl,rfl,-⟩,-,rfl⟩:=a5
 refine ⟨rfl,rfl,h4,h5.lt,A0,c0,C0,d0,A1,c1,C1,d1,h5,fun u' k0 m0 k1 m1 hg hc=>?_⟩
 have np:∀ i,i < 8 -> i ≠ 3 -> ∀ l,[Ae (ψ A2 x.counts.length c2),Ae (ψ B2 x.trusts.length d2),Ae (ψ C2 x.cells.length e2),[b],Ae (ψ A0 x.s0.trusts.length c0),Ae (ψ C0 x.s0.cells.length d0),Ae (ψ A1 x.s1.trusts.length c1),Ae (ψ C1 x.s1.cells.length d1)][i]? = some l -> b ∉ l:=by
  intro i hi hne l hl hm
  obtain ⟨hi',rfl⟩:=List.getElem?_eq_some_iff.1 hl
  rcases Nat.lt_or_gt_of_ne hne with hlt3 | hgt3
  ·exact (List.pairwise_iff_getElem.1 h10) i 3 hi' (by simp) hlt3 b hm (by simp)
  ·exact (List.pairwise_iff_getElem.1 h10) 3 i (by simp) hi' hgt3 b (by simp) hm
 exact ⟨A2,c2,B2,d2,C2,e2,b,A0,c0,C0,d0,A1,c1,C1,d1,hv',AK h1 hg (np 0 (by omega) (by omega) _ rfl),AK h2 hg (np 1 (by omega) (by omega) _ rfl),AK h3 hg (np 2 (by omega) (by omega) _ rfl),h4,hc,AK h6 hg (np 4 (by omega) (by omega) _ rfl),AK h7 hg (np 5 (by omega) (by omega) _ rfl),AK h8 hg (np 6 (by omega) (by omega) _ rfl),AK h9 hg (np 7 (by omega) (by omega) _ rfl),h10⟩
theorem VolO.slotPut0 {u:World} {base:Nat} {x:VolN} {A B C:Option Addr} {c d e b o sc n0 n1 n2:Nat} {v':World} {s:SlN} {A9 C9:Option Addr} {c9 d9 N M:Nat} {y0 y1 y2 y3 y4 y5 y6 y7:Value} (h:VolO u base x (σ #[O U x.key,ψ A n0 c,ψ B n1 d,ψ C n2 e,ψ (some ⟨b,o,none⟩) 2 sc,O U x.count])) (hT:Bl v' N (ψ A9 s.trusts.length c9) s.trusts) (hC:Bv v' M (ψ C9 s.cells.length d9) s.cells)
    (hN:u.1.size <= N) (hM:u.1.size <= M) (hd:Sep (Ae (ψ A9 s.trusts.length c9)) (Ae (ψ C9 s.cells.length d9))) (hold:Aa u b 91 #[y0,y1,y2,y3,y4,y5,y6,y7]) (hg:u.grownBy v' (some b)) (hc:Aa v' b 91 #[O U s.count,ψ A9 s.trusts.length c9,O U s.mac,ψ C9 s.cells.length d9,y4,y5,y6,y7]):VolO v' base { x with s0:=s } (σ #[O U x.key,ψ A n0 c,ψ B n1 d,ψ C n2 e,ψ (some ⟨b,o,none⟩) 2 sc,O U x.count]):=by
 obtain ⟨A2,c2,B2,d2,C2,e2,g,A0,c0,C0,d0,A1,c1,C1,d1,hv,h1,h2,h3,h4,h5,h6,h7,h8,h9,h10,hlt⟩:=h.parts
 have hv':=hv
 simp only [Value.agg.injEq,Array.mk.injEq,List.cons.injEq] at hv
 obtain ⟨a1,a2,a3,a4,a5,a6,-⟩:=hv
 simp only [Value.slice.injEq,Option.some.injEq,Addr.mk.injEq] at a5
 obtain ⟨⟨rfl,rfl,-⟩,-,rfl⟩:=a5
 have he:=Lv hold h5
 simp only [Array.mk.injEq,List.cons.injEq] at he
 obtain ⟨z0,z1,z2,z3,z4,z5,z6,z7,-⟩:=he
 subst z4 z5 z6 z7
 have np:∀ i,i < 8 -> i ≠ 3 -> ∀ l,[Ae (ψ A2 x.counts.length c2),Ae (ψ B2 x.trusts.length d2),Ae (ψ C2 x.cells.length e2),[b],Ae (ψ A0 x.s0.trusts.length c0),Ae (ψ C0 x.s0.cells.length d0),Ae (ψ A1 x.s1.trusts.length c1),Ae (ψ C1 x.s1.cells.length d1)][i]? = some l -> b ∉ l:=by
  intro i hi hne l hl hm
  obtain ⟨hi',rfl⟩:=List.getElem?_eq_some_iff.1 hl
  rcases Nat.lt_or_gt_of_ne hne with hlt3 | hgt3
  ·exact (List.pairwise_iff_getElem.1 h10) i 3 hi' (by simp) hlt3 b hm (by simp)
  ·exact (List.pairwise_iff_getElem.1 h10) 3 i (by simp) hi' hgt3 b (by simp) hm
 have kk:=fun {vv:Value} {t size n:Nat} {xs:List Value} (hr:u.ownsRow base t size vv n xs) (i:Nat) (hi:i < 8) (hne:i ≠ 3) (hl:[Ae (ψ A2 x.counts.length c2),Ae (ψ B2 x.trusts.length d2),Ae (ψ C2 x.cells.length e2),[b],Ae (ψ A0 x.s0.trusts.length c0),Ae (ψ C0 x.s0.cells.length d0),Ae (ψ A1 x.s1.trusts.length c1),Ae (ψ C1 x.s1.cells.length d1)][i]? = some (Ae vv))=>AK hr hg (np i hi hne _ hl)
 have hbl:=h5.lt
 have nT:=AV hT (show base <= N by omega)
 have nC:=AV hC (show base <= M by omega)
 refine ⟨A2,c2,B2,d2,C2,e2,b,A9,c9,C9,d9,A1,c1,C1,d1,hv',kk h1 0 (by omega) (by omega) rfl,kk h2 1 (by omega) (by omega) rfl,kk h3 2 (by omega) (by omega) rfl,h4,hc,nT,nC,kk h8 6 (by omega) (by omega) rfl,kk h9 7 (by omega) (by omega) rfl,?_⟩
 have sT:∀ y ∈ Ae (ψ A9 s.trusts.length c9),u.1.size <= y:=fun y hy=>Nat.le_trans hN (Ax hT y hy).1
 have sC:∀ y ∈ Ae (ψ C9 s.cells.length d9),u.1.size <= y:=fun y hy=>Nat.le_trans hM (Ax hC y hy).1
 refine Jy (Jy h10 4 _ (fun l hl=>Da (hlt l hl) sT)) 5 _ (fun l hl=>?_)
 rcases Kw hl with hl | rfl
 ·exact Da (hlt l hl) sC
 ·exact hd
theorem VolO.slotPut1 {u:World} {base:Nat} {x:VolN} {A B C:Option Addr} {c d e b o sc n0 n1 n2:Nat} {v':World} {s:SlN} {A9 C9:Option Addr} {c9 d9 N M:Nat} {y0 y1 y2 y3 y4 y5 y6 y7:Value} (h:VolO u base x (σ #[O U x.key,ψ A n0 c,ψ B n1 d,ψ C n2 e,ψ (some ⟨b,o,none⟩) 2 sc,O U x.count])) (hT:Bl v' N (ψ A9 s.trusts.length c9) s.trusts) (hC:Bv v' M (ψ C9 s.cells.length d9) s.cells)
    (hN:u.1.size <= N) (hM:u.1.size <= M) (hd:Sep (Ae (ψ A9 s.trusts.length c9)) (Ae (ψ C9 s.cells.length d9))) (hold:Aa u b 91 #[y4,y5,y6,y7,y0,y1,y2,y3]) (hg:u.grownBy v' (some b)) (hc:Aa v' b 91 #[y4,y5,y6,y7,O U s.count,ψ A9 s.trusts.length c9,O U s.mac,ψ C9 s.cells.length d9]):VolO v' base { x with s1:=s } (σ #[O U x.key,ψ A n0 c,ψ B n1 d,ψ C n2 e,ψ (some ⟨b,o,none⟩) 2 sc,O U x.count]):=by
 obtain ⟨A2,c2,B2,d2,C2,e2,g,A0,c0,C0,d0,A1,c1,C1,d1,hv,h1,h2,h3,h4,h5,h6,h7,h8,h9,h10,hlt⟩:=h.parts
 have hv':=hv
 simp only [Value.agg.injEq,Array.mk.injEq,List.cons.injEq] at hv
 obtain ⟨a1,a2,a3,a4,a5,a6,-⟩:=hv
 simp only [Value.slice.injEq,Option.some.injEq,Addr.mk.injEq] at a5
 obtain ⟨⟨rfl,rfl,-⟩,-,rfl⟩:=a5
 have he:=Lv hold h5
 simp only [Array.mk.injEq,List.cons.injEq] at he
 obtain ⟨z0,z1,z2,z3,z4,z5,z6,z7,-⟩:=he
 subst z0 z1 z2 z3
 have np:∀ i,i < 8 -> i ≠ 3 -> ∀ l,[Ae (ψ A2 x.counts.length c2),Ae (ψ B2 x.trusts.length d2),Ae (ψ C2 x.cells.length e2),[b],Ae (ψ A0 x.s0.trusts.length c0),Ae (ψ C0 x.s0.cells.length d0),Ae (ψ A1 x.s1.trusts.length c1),Ae (ψ C1 x.s1.cells.length d1)][i]? = some l -> b ∉ l:=by
  intro i hi hne l hl hm
  obtain ⟨hi',rfl⟩:=List.getElem?_eq_some_iff.1 hl
  rcases Nat.lt_or_gt_of_ne hne with hlt3 | hgt3
  ·exact (List.pairwise_iff_getElem.1 h10) i 3 hi' (by simp) hlt3 b hm (by simp)
  ·exact (List.pairwise_iff_getElem.1 h10) 3 i (by simp) hi' hgt3 b (by simp) hm
 have kk:=fun {vv:Value} {t size n:Nat} {xs:List Value} (hr:u.ownsRow base t size vv n xs) (i:Nat) (hi:i < 8) (hne:i ≠ 3) (hl:[Ae (ψ A2 x.counts.length c2),Ae (ψ B2 x.trusts.length d2),Ae (ψ C2 x.cells.length e2),[b],Ae (ψ A0 x.s0.trusts.length c0),Ae (ψ C0 x.s0.cells.length d0),Ae (ψ A1 x.s1.trusts.length c1),Ae (ψ C1 x.s1.cells.length d1)][i]? = some (Ae vv))=>AK hr hg (np i hi hne _ hl)
 have hbl:=h5.lt
 have nT:=AV hT (show base <= N by omega)
 have nC:=AV hC (show base <= M by omega)
 refine ⟨A2,c2,B2,d2,C2,e2,b,A0,c0,C0,d0,A9,c9,C9,d9,hv',kk h1 0 (by omega) (by omega) rfl,kk h2 1 (by omega) (by omega) rfl,kk h3 2 (by omega) (by omega) rfl,h4,hc,kk h6 4 (by omega) (by omega) rfl,kk h7 5 (by omega) (by omega) rfl,nT,nC,?_⟩
 have sT:∀ y ∈ Ae (ψ A9 s.trusts.length c9),u.1.size <= y:=fun y hy=>Nat.le_trans hN (Ax hT y hy).1
 have sC:∀ y ∈ Ae (ψ C9 s.cells.length d9),u.1.size <= y:=fun y hy=>Nat.le_trans hM (Ax hC y hy).1
 refine Jy (Jy h10 6 _ (fun l hl=>Da (hlt l hl) sT)) 7 _ (fun l hl=>?_)
 rcases Kw hl with hl | rfl
 ·exact Da (hlt l hl) sC
 ·exact hd
def Bw (x:VolN) (slot:Int):VolN × Int:=
 if slot = 0 then ({ x with s0:={ x.s0 with mac:=IntKind.i64.wrap (x.s0.mac + 1) } },0) else if slot = 1 then ({ x with s1:={ x.s1 with mac:=IntKind.i64.wrap (x.s1.mac + 1) } },0) else (x,1)
theorem KJ (x:VolN) (v:Value) (slot:Int) (w:World) (hx:x.Short) (hv:VolR w w.1.size x v):
    Calls prog 95 #[v,O U slot] w (Ci w (Bw x slot)):=by
 have CO:=hid (fun (u:World) (hb:Below w.1.size w u)=>Fo x v u hx (hv.grow hb))
 obtain ⟨A,cap,B,tc,C,cc,b,off,sc,rfl,-⟩:=hv
 have K0:=hid (show Kept w [(w.1.size + 1,31,#[O U 0,ψ none 0 0,ψ none 0 0,ψ none 0 0,ψ none 0 0,O U 0]),(w.1.size,31,#[O U x.key,ψ A x.counts.length cap,ψ B x.trusts.length tc,ψ C x.cells.length cc,ψ (some ⟨b,off,none⟩) 2 sc,O U x.count])] _ from (((Kept.refl w).put1 _ _ #[O U x.key,ψ A x.counts.length cap,ψ B x.trusts.length tc,ψ C x.cells.length cc,ψ (some ⟨b,off,none⟩) 2 sc,O U x.count] rfl).put1 _ _ #[O U 0,ψ none 0 0,ψ none 0 0,ψ none 0 0,ψ none 0 0,O U 0] (by simp)))
 unfold Bw
 by_cases hs0:slot = 0
 ·subst hs0
  rw [if_pos rfl]
  have I:=hid (fun u=>Bm 0 0 1 u (by omega) (by omega))
  go_enter func95,ntmps95
  go_wp2_with fail
  refine (CO.out _ K0.out.1).mono ?_;rintro e u1 ⟨vv,rfl,hv,hb1⟩
  have hk1:=K0.out.below hb1
  obtain ⟨A',c',B',d',C',e',b',o',s',rfl,-⟩:=hv.reads
  have hv1:=hv.mono (show w.1.size + 1 + 1 <= _ by simp)
  have hbl:=hv.slotsGet.2.2.2.1
  have lo0:w.1.size + 1 < u1.1.size:=hk1.lt (x:=(w.1.size + 1,31,#[O U 0,ψ none 0 0,ψ none 0 0,ψ none 0 0,ψ none 0 0,O U 0])) (by simp)
  have lo1:w.1.size < u1.1.size:=hk1.lt (x:=(w.1.size,31,#[O U x.key,ψ A x.counts.length cap,ψ B x.trusts.length tc,ψ C x.cells.length cc,ψ (some ⟨b,off,none⟩) 2 sc,O U x.count])) (by simp)
  have hk2:=hk1.put1 u1.1.size 31 #[O U x.key,ψ A' x.counts.length c',ψ B' x.trusts.length d',ψ C' x.cells.length e',ψ (some ⟨b',o',none⟩) 2 s',O U x.count] rfl
  have hv2:=hv1.below ((Below.refl _ _).alloc (lr _) (.cells #[O U x.key,ψ A' x.counts.length c',ψ B' x.trusts.length d',ψ C' x.cells.length e',ψ (some ⟨b',o',none⟩) 2 s',O U x.count] 31))
  clear hb1 hk1 hv hv1 CO
  go_upto_region 2 with fail
  generalize World.alloc u1 _ = u2 at hk2 hv2 |-
  obtain ⟨X0,Y0,X1,Y1,X2,Y2,-⟩:=hk2.rd
  have HV:=hid hv2
  clear hv2
  have KK:=hid hk2
  go_wp2_with fail
  refine (I.out _).mono ?_;rintro e w' ⟨rfl,rfl⟩
  go_upto_region 4 with fail
  obtain ⟨eo,es,hbb,hbu,A0,c0,C0,d0,A1,c1,C1,d1,hsl,hset⟩:=HV.out.slotsGet
  subst eo
  have SL:=hid hsl
  have HSET:=hid hset
  have es2:=hid es
  clear es hset
  have sc2:=hsl.cell 2
  have sf2:=hsl.frozen 2
  simp only [List.getElem?_toArray,List.getElem?_cons_zero,List.getElem?_cons_succ] at sc2
  obtain ⟨m,hm⟩:∃ m,IntKind.i64.wrap (x.s0.mac + 1) = m:=⟨_,rfl⟩
  rw [hm]
  clear hsl HV
  go_region
  go_upto_region 5 with fail
  have hg5:=Ai (Aj u2 (some b')) 2 (O U m)
  have hc5:=SL.out.set_ 2 (O U m)
  have hk5:=(KK.out.grown hg5 (by omega) (by intro y hy;simp at hy;rcases hy with rfl | rfl | rfl <;> simp <;> omega)).drew
  have hv5:=(HSET.out _ x.s0.count m x.s1.count x.s1.mac hg5 hc5).below (show Below _ _ (World.drew _) from (Below.refl _ _).drew)
  generalize World.drew _ = w5 at hk5 hv5 |-
  clear hg5 hc5 SL HSET sc2 sf2 KK
  clear X0 Y0 X1 Y1 X2 Y2
  obtain ⟨X0,Y0,X1,Y1,X2,Y2,-⟩:=hk5.rd
  have HV:=hid hv5
  have KK:=hid hk5
  clear hv5 hk5
  go_wp2_with fail
  obtain ⟨w9,e9,⟨d0,d1,d2,d3,d4,d5⟩,hb9,hg9⟩:=AN (w:=w) (x0:=O U x.key) (x1:=ψ A' x.counts.length c') (x2:=ψ B' x.trusts.length d') (x3:=ψ C' x.cells.length e') (x4:=ψ (some ⟨b',0,none⟩) 2 s') (x5:=O U x.count) (KK.out.at_ (p:=w.1.size + 1) (t:=31) (cs:=#[O U 0,ψ none 0 0,ψ none 0 0,ψ none 0 0,ψ none 0 0,O U 0]) (by simp)) KK.out.1 (by omega)
  rw [e9]
  exact bodyPost_ret (v:=.tuple #[σ #[O U x.key,ψ A' x.counts.length c',ψ B' x.trusts.length d',ψ C' x.cells.length e',ψ (some ⟨b',0,none⟩) 2 s',O U x.count],O U 0]) (by simp [results,results95,go_sem,d0,d1,d2,d3,d4,d5]) rfl ⟨_,rfl,(HV.out.out hg9 (by omega)).mono (by omega),hb9⟩
 by_cases hs1:slot = 1
 ·subst hs1
  rw [if_neg (by omega),if_pos rfl]
  have I:=hid (fun u=>Bm 1 0 1 u (by omega) (by omega))
  go_enter func95,ntmps95
  go_wp2_with fail
  refine (CO.out _ K0.out.1).mono ?_;rintro e u1 ⟨vv,rfl,hv,hb1⟩
  have hk1:=K0.out.below hb1
  obtain ⟨A',c',B',d',C',e',b',o',s',rfl,-⟩:=hv.reads
  have hv1:=hv.mono (show w.1.size + 1 + 1 <= _ by simp)
  have hbl:=hv.slotsGet.2.2.2.1
  have lo0:w.1.size + 1 < u1.1.size:=hk1.lt (x:=(w.1.size + 1,31,#[O U 0,ψ none 0 0,ψ none 0 0,ψ none 0 0,ψ none 0 0,O U 0])) (by simp)
  have lo1:w.1.size < u1.1.size:=hk1.lt (x:=(w.1.size,31,#[O U x.key,ψ A x.counts.length cap,ψ B x.trusts.length tc,ψ C x.cells.length cc,ψ (some ⟨b,off,none⟩) 2 sc,O U x.count])) (by simp)
  have hk2:=hk1.put1 u1.1.size 31 #[O U x.key,ψ A' x.counts.length c',ψ B' x.trusts.length d',ψ C' x.cells.length e',ψ (some ⟨b',o',none⟩) 2 s',O U x.count] rfl
  have hv2:=hv1.below ((Below.refl _ _).alloc (lr _) (.cells #[O U x.key,ψ A' x.counts.length c',ψ B' x.trusts.length d',ψ C' x.cells.length e',ψ (some ⟨b',o',none⟩) 2 s',O U x.count] 31))
  clear hb1 hk1 hv hv1 CO
  go_upto_region 2 with fail
  generalize World.alloc u1 _ = u2 at hk2 hv2 |-
  obtain ⟨X0,Y0,X1,Y1,X2,Y2,-⟩:=hk2.rd
  have HV:=hid hv2
  clear hv2
  have KK:=hid hk2
  go_wp2_with fail
  refine (I.out _).mono ?_;rintro e w' ⟨rfl,rfl⟩
  go_upto_region 4 with fail
  obtain ⟨eo,es,hbb,hbu,A0,c0,C0,d0,A1,c1,C1,d1,hsl,hset⟩:=HV.out.slotsGet
  subst eo
  have SL:=hid hsl
  have HSET:=hid hset
  have es2:=hid es
  clear es hset
  have sc2:=hsl.cell 6
  have sf2:=hsl.frozen 6
  simp only [List.getElem?_toArray,List.getElem?_cons_zero,List.getElem?_cons_succ] at sc2
  obtain ⟨m,hm⟩:∃ m,IntKind.i64.wrap (x.s1.mac + 1) = m:=⟨_,rfl⟩
  rw [hm]
  clear hsl HV
  go_region
  go_upto_region 5 with fail
  have hg5:=Ai (Aj u2 (some b')) 6 (O U m)
  have hc5:=SL.out.set_ 6 (O U m)
  have hk5:=(KK.out.grown hg5 (by omega) (by intro y hy;simp at hy;rcases hy with rfl | rfl | rfl <;> simp <;> omega)).drew
  have hv5:=(HSET.out _ x.s0.count x.s0.mac x.s1.count m hg5 hc5).below (show Below _ _ (World.drew _) from (Below.refl _ _).drew)
  generalize World.drew _ = w5 at hk5 hv5 |-
  clear hg5 hc5 SL HSET sc2 sf2 KK
  clear X0 Y0 X1 Y1 X2 Y2
  obtain ⟨X0,Y0,X1,Y1,X2,Y2,-⟩:=hk5.rd
  have HV:=hid hv5
  have KK:=hid hk5
  clear hv5 hk5
  go_wp2_with fail
  obtain ⟨w9,e9,⟨d0,d1,d2,d3,d4,d5⟩,hb9,hg9⟩:=AN (w:=w) (x0:=O U x.key) (x1:=ψ A' x.counts.length c') (x2:=ψ B' x.trusts.length d') (x3:=ψ C' x.cells.length e') (x4:=ψ (some ⟨b',0,none⟩) 2 s') (x5:=O U x.count) (KK.out.at_ (p:=w.1.size + 1) (t:=31) (cs:=#[O U 0,ψ none 0 0,ψ none 0 0,ψ none 0 0,ψ none 0 0,O U 0]) (by simp)) KK.out.1 (by omega)
  rw [e9]
  exact bodyPost_ret (v:=.tuple #[σ #[O U x.key,ψ A' x.counts.length c',ψ B' x.trusts.length d',ψ C' x.cells.length e',ψ (some ⟨b',0,none⟩) 2 s',O U x.count],O U 0]) (by simp [results,results95,go_sem,d0,d1,d2,d3,d4,d5]) rfl ⟨_,rfl,(HV.out.out hg9 (by omega)).mono (by omega),hb9⟩
 rw [if_neg hs0,if_neg hs1]
 have I:=hid (fun u=>DD slot 0 1 u (by omega))
 clear hs0 hs1
 go_enter func95,ntmps95
 go_wp2_with fail
 refine (CO.out _ K0.out.1).mono ?_;rintro e u1 ⟨vv,rfl,hv,hb1⟩
 have hk1:=K0.out.below hb1
 obtain ⟨A',c',B',d',C',e',b',o',s',rfl,-⟩:=hv.reads
 have hv1:=hv.mono (show w.1.size + 1 + 1 <= _ by simp)
 have hbl:=hv.slotsGet.2.2.2.1
 have lo0:w.1.size + 1 < u1.1.size:=hk1.lt (x:=(w.1.size + 1,31,#[O U 0,ψ none 0 0,ψ none 0 0,ψ none 0 0,ψ none 0 0,O U 0])) (by simp)
 have lo1:w.1.size < u1.1.size:=hk1.lt (x:=(w.1.size,31,#[O U x.key,ψ A x.counts.length cap,ψ B x.trusts.length tc,ψ C x.cells.length cc,ψ (some ⟨b,off,none⟩) 2 sc,O U x.count])) (by simp)
 have hk2:=hk1.put1 u1.1.size 31 #[O U x.key,ψ A' x.counts.length c',ψ B' x.trusts.length d',ψ C' x.cells.length e',ψ (some ⟨b',o',none⟩) 2 s',O U x.count] rfl
 have hv2:=hv1.below ((Below.refl _ _).alloc (lr _) (.cells #[O U x.key,ψ A' x.counts.length c',ψ B' x.trusts.length d',ψ C' x.cells.length e',ψ (some ⟨b',o',none⟩) 2 s',O U x.count] 31))
 clear hb1 hk1 hv hv1 CO
 go_upto_region 2 with fail
 generalize World.alloc u1 _ = u2 at hk2 hv2 |-
 obtain ⟨X0,Y0,X1,Y1,X2,Y2,-⟩:=hk2.rd
 have HV:=hid hv2
 clear hv2
 have KK:=hid hk2
 go_wp2_with fail
 refine (I.out _).mono ?_;rintro e w' ⟨rfl,rfl⟩
 go_wp2_with fail
 obtain ⟨w9,e9,⟨d0,d1,d2,d3,d4,d5⟩,hb9,hg9⟩:=AN (w:=w) (x0:=O U x.key) (x1:=ψ A' x.counts.length c') (x2:=ψ B' x.trusts.length d') (x3:=ψ C' x.cells.length e') (x4:=ψ (some ⟨b',o',none⟩) 2 s') (x5:=O U x.count) (KK.out.at_ (p:=w.1.size + 1) (t:=31) (cs:=#[O U 0,ψ none 0 0,ψ none 0 0,ψ none 0 0,ψ none 0 0,O U 0]) (by simp)) KK.out.1 (by omega)
 rw [e9]
 exact bodyPost_ret (v:=.tuple #[σ #[O U x.key,ψ A' x.counts.length c',ψ B' x.trusts.length d',ψ C' x.cells.length e',ψ (some ⟨b',o',none⟩) 2 s',O U x.count],O U 1]) (by simp [results,results95,go_sem,d0,d1,d2,d3,d4,d5]) rfl ⟨_,rfl,(HV.out.out hg9 (by omega)).mono (by omega),hb9⟩

import Derived.Test.YteoijmejhdocdaaGreatDoorV12
namespace Go.Proofs.YteoijmejhdocdaaGreatDoor.Mx
open Go.ChangeShapes Go.WideShapes Go.ChangeAt Go.RowKit
set_option linter.unusedVariables false
open Go.Lib (hid)
open Go.Proofs.Tryz
set_option maxRecDepth 20000
set_option maxHeartbeats 64000000
open Value renaming int → O, slice → ψ, bool → φ, agg → σ
open IntKind renaming i64 → U
open Ending renaming returned → τ
def VolR (w:World) (Bd:Nat) (x:VolN) (v:Value):Prop:=
 ∃ A c B d C e b off sc,v = σ #[O U x.key,ψ A x.counts.length c,ψ B x.trusts.length d,ψ C x.cells.length e,ψ (some ⟨b,off,none⟩) 2 sc,O U x.count] /\
   Ints w U Bd A x.counts /\ Trs w Bd B x.trusts /\ Cls w Bd C x.cells /\ b < Bd /\ Bq w Bd b off x.s0 /\ Bq w Bd b (off + 4) x.s1 /\ x.counts.length <= c
theorem VolR.below {w u:World} {Bd D:Nat} {x:VolN} {v:Value} (h:VolR w Bd x v) (hb:Below D w u) (hD:Bd <= D):VolR u Bd x v:=by
 obtain ⟨A,c,B,d,C,e,b,off,sc,h0,h1,h2,h3,h4,h5,h6,h7⟩:=h
 exact ⟨A,c,B,d,C,e,b,off,sc,h0,h1.below hb hD,h2.below hb hD,h3.below hb hD,h4,h5.below hb hD h4,h6.below hb hD h4,h7⟩
theorem VolR.more {w:World} {Bd D:Nat} {x:VolN} {v:Value} (h:VolR w Bd x v) (hD:Bd <= D):VolR w D x v:=by
 obtain ⟨A,c,B,d,C,e,b,off,sc,h0,h1,h2,h3,h4,h5,h6,h7⟩:=h
 exact ⟨A,c,B,d,C,e,b,off,sc,h0,h1.more hD,h2.more hD,h3.more hD,by omega,h5.more hD,h6.more hD,h7⟩
theorem VolR.grow {w u:World} {x:VolN} {v:Value} (h:VolR w w.1.size x v) (hb:Below w.1.size w u):VolR u u.1.size x v:=(h.below hb (lr _)).more hb.size
theorem Ax {u:World} {base:Nat} {v:Value} {t size n:Nat} {xs:List Value} (h:u.ownsRow base t size v n xs):∀ g ∈ Ae v,base <= g /\ g < u.1.size:=by
 intro g hg
 unfold Ae at hg
 split at hg
 ·rename_i a _ _
  simp only [List.mem_singleton] at hg
  subst hg
  exact World.ownsRow.lt h a.block rfl
 ·cases hg
theorem AK {u u':World} {base p:Nat} {v:Value} {t size n:Nat} {xs:List Value} (h:u.ownsRow base t size v n xs) (hg:u.grownBy u' (some p)) (hp:p ∉ Ae v):u'.ownsRow base t size v n xs:=
 Cm h fun g hgm=>hg.block g (Ax h g hgm).2 (by intro e;injection e with e;subst e;exact hp hgm)
theorem VolO.reads {u:World} {base:Nat} {x:VolN} {v:Value} (h:VolO u base x v):VolR u u.1.size x v:=by
 obtain ⟨A,c,B,d,C,e,g,A0,c0,C0,d0,A1,c1,C1,d1,h0,h1,h2,h3,h4,h5,h6,h7,h8,h9,h10⟩:=h
 obtain ⟨A',c',e1,i1,i2⟩:=h1.form
 obtain ⟨B',d',e2,i3,i4⟩:=h2.reads AD
 obtain ⟨C',f',e3,i5,i6⟩:=h3.reads Au
 obtain ⟨A0',c0',e4,i7,_⟩:=h6.reads AD
 obtain ⟨C0',d0',e5,i8,_⟩:=h7.reads Au
 obtain ⟨A1',c1',e6,i9,_⟩:=h8.reads AD
 obtain ⟨C1',d1',e7,i10,_⟩:=h9.reads Au
 simp only [Value.slice.injEq,true_and] at e1 e2 e3 e4 e5 e6 e7
 obtain ⟨rfl,rfl⟩:=e1
 obtain ⟨rfl,rfl⟩:=e2
 obtain ⟨rfl,rfl⟩:=e3
 obtain ⟨rfl,rfl⟩:=e4
 obtain ⟨rfl,rfl⟩:=e5
 obtain ⟨rfl,rfl⟩:=e6
 obtain ⟨rfl,rfl⟩:=e7
 refine ⟨A,c,B,d,C,e,g,0,2,h0,i1,i3,i5,h5.lt,⟨A0,c0,C0,d0,h5.cell 0,h5.cell 1,h5.cell 2,h5.cell 3,i7,i8⟩,⟨A1,c1,C1,d1,h5.cell 4,h5.cell 5,h5.cell 6,h5.cell 7,i9,i10⟩,i2⟩
theorem VolO.below {u u':World} {base:Nat} {x:VolN} {v:Value} (h:VolO u base x v) (hb:Below u.1.size u u'):VolO u' base x v:=by
 obtain ⟨A,c,B,d,C,e,g,A0,c0,C0,d0,A1,c1,C1,d1,h0,h1,h2,h3,h4,h5,h6,h7,h8,h9,h10⟩:=h
 have k:=fun {vv:Value} {t size n:Nat} {xs:List Value} (hr:u.ownsRow base t size vv n xs)=>Cm hr (u':=u') fun y hy=>hb.block y (Ax hr y hy).2
 exact ⟨A,c,B,d,C,e,g,A0,c0,C0,d0,A1,c1,C1,d1,h0,k h1,k h2,k h3,h4,h5.below hb h5.lt,k h6,k h7,k h8,k h9,h10⟩
theorem VolO.mono {u:World} {base base':Nat} {x:VolN} {v:Value} (h:VolO u base x v) (hb:base' <= base):VolO u base' x v:=by
 obtain ⟨A,c,B,d,C,e,g,A0,c0,C0,d0,A1,c1,C1,d1,h0,h1,h2,h3,h4,h5,h6,h7,h8,h9,h10⟩:=h
 exact ⟨A,c,B,d,C,e,g,A0,c0,C0,d0,A1,c1,C1,d1,h0,AV h1 hb,AV h2 hb,AV h3 hb,Nat.le_trans hb h4,h5,AV h6 hb,AV h7 hb,AV h8 hb,AV h9 hb,h10⟩
theorem VolO.out {u u':World} {base p:Nat} {x:VolN} {v:Value} (h:VolO u base x v) (hg:u.grownBy u' (some p)) (hp:p < base):VolO u' base x v:=by
 obtain ⟨A,c,B,d,C,e,g,A0,c0,C0,d0,A1,c1,C1,d1,h0,h1,h2,h3,h4,h5,h6,h7,h8,h9,h10⟩:=h
 have k:=fun {vv:Value} {t size n:Nat} {xs:List Value} (hr:u.ownsRow base t size vv n xs)=>AK hr hg (fun hm=>by have:=(Ax hr p hm).1;omega)
 exact ⟨A,c,B,d,C,e,g,A0,c0,C0,d0,A1,c1,C1,d1,h0,k h1,k h2,k h3,h4,h5.grown hg (by intro q;injection q with q;omega),k h6,k h7,k h8,k h9,h10⟩
theorem VolO.trustsAt {u:World} {base:Nat} {x:VolN} {v:Value} (h:VolO u base x v) (hk:0 < x.trusts.length):
    ∃ A c B d C e b sc g,v = σ #[O U x.key,ψ A x.counts.length c,ψ B x.trusts.length d,ψ C x.cells.length e,ψ (some ⟨b,0,none⟩) 2 sc,O U x.count] /\ B = some ⟨g,0,none⟩ /\ base <= g /\ g < u.1.size /\ Bl u base (ψ (some ⟨g,0,none⟩) x.trusts.length d) x.trusts /\
      ∀ (u':World) (L':List Tru),L'.length = x.trusts.length -> u.grownBy u' (some g) -> Bl u' base (ψ (some ⟨g,0,none⟩) L'.length d) L' -> VolO u' base { x with trusts:=L' } v:=by
 obtain ⟨A,c,B,d,C,e,b,A0,c0,C0,d0,A1,c1,C1,d1,h0,h1,h2,h3,h4,h5,h6,h7,h8,h9,h10⟩:=h
 obtain ⟨g,cap,e1,hb1,hlt⟩:=World.ownsRow.form h2 hk
 simp only [Value.slice.injEq,true_and] at e1
 obtain ⟨rfl,rfl⟩:=e1
 refine ⟨A,c,some ⟨g,0,none⟩,d,C,e,b,2,g,h0,rfl,hb1,hlt,h2,fun u' L' hl hgb hrow=>?_⟩
 have hmem:g ∈ Ae (ψ (some ⟨g,0,none⟩) x.trusts.length d):=by simp [Ae]
 have p0:∀ y ∈ Ae (ψ A x.counts.length c),y ∉ Ae (ψ (some ⟨g,0,none⟩) x.trusts.length d):=(List.pairwise_iff_getElem.1 h10) 0 1 (by simp) (by simp) (by omega)
 have n0:g ∉ Ae (ψ A x.counts.length c):=fun hm=>p0 g hm hmem
 have p2:∀ y ∈ Ae (ψ (some ⟨g,0,none⟩) x.trusts.length d),y ∉ Ae (ψ C x.cells.length e):=(List.pairwise_iff_getElem.1 h10) 1 2 (by simp) (by simp) (by omega)
 have n2:g ∉ Ae (ψ C x.cells.length e):=p2 g hmem
 have p3:∀ y ∈ Ae (ψ (some ⟨g,0,none⟩) x.trusts.length d),y ∉ [b]:=(List.pairwise_iff_getElem.1 h10) 1 3 (by simp) (by simp) (by omega)
 have n3:g ≠ b:=fun eq=>p3 g hmem (by rw [eq];simp)
 have p4:∀ y ∈ Ae (ψ (some ⟨g,0,none⟩) x.trusts.length d),y ∉ Ae (ψ A0 x.s0.trusts.length c0):=(List.pairwise_iff_getElem.1 h10) 1 4 (by simp) (by simp) (by omega)
 have n4:g ∉ Ae (ψ A0 x.s0.trusts.length c0):=p4 g hmem
 have p5:∀ y ∈ Ae (ψ (some ⟨g,0,none⟩) x.trusts.length d),y ∉ Ae (ψ C0 x.s0.cells.length d0):=(List.pairwise_iff_getElem.1 h10) 1 5 (by simp) (by simp) (by omega)
 have n5:g ∉ Ae (ψ C0 x.s0.cells.length d0):=p5 g hmem
 have p6:∀ y ∈ Ae (ψ (some ⟨g,0,none⟩) x.trusts.length d),y ∉ Ae (ψ A1 x.s1.trusts.length c1):=(List.pairwise_iff_getElem.1 h10) 1 6 (by simp) (by simp) (by omega)
 have n6:g ∉ Ae (ψ A1 x.s1.trusts.length c1):=p6 g hmem
 have p7:∀ y ∈ Ae (ψ (some ⟨g,0,none⟩) x.trusts.length d),y ∉ Ae (ψ C1 x.s1.cells.length d1):=(List.pairwise_iff_getElem.1 h10) 1 7 (by simp) (by simp) (by omega)
 have n7:g ∉ Ae (ψ C1 x.s1.cells.length d1):=p7 g hmem
 refine ⟨A,c,some ⟨g,0,none⟩,d,C,e,b,A0,c0,C0,d0,A1,c1,C1,d1,?_,AK h1 hgb n0,hrow,AK h3 hgb n2,h4,h5.grown hgb (by intro eq;injection eq with eq;exact n3 eq.symm),AK h6 hgb n4,AK h7 hgb n5,AK h8 hgb n6,AK h9 hgb n7,?_⟩
 ·simp only [];rw [hl];exact h0
 ·simp only [];rw [hl];exact h10
theorem VolO.cellsAt {u:World} {base:Nat} {x:VolN} {v:Value} (h:VolO u base x v) (hk:0 < x.cells.length):
    ∃ A c B d C e b sc g,v = σ #[O U x.key,ψ A x.counts.length c,ψ B x.trusts.length d,ψ C x.cells.length e,ψ (some ⟨b,0,none⟩) 2 sc,O U x.count] /\ C = some ⟨g,0,none⟩ /\ base <= g /\ g < u.1.size /\ Bv u base (ψ (some ⟨g,0,none⟩) x.cells.length e) x.cells /\
      ∀ (u':World) (L':List Ce),L'.length = x.cells.length -> u.grownBy u' (some g) -> Bv u' base (ψ (some ⟨g,0,none⟩) L'.length e) L' -> VolO u' base { x with cells:=L' } v:=by
 obtain ⟨A,c,B,d,C,e,b,A0,c0,C0,d0,A1,c1,C1,d1,h0,h1,h2,h3,h4,h5,h6,h7,h8,h9,h10⟩:=h
 obtain ⟨g,cap,e1,hb1,hlt⟩:=World.ownsRow.form h3 hk
 simp only [Value.slice.injEq,true_and] at e1
 obtain ⟨rfl,rfl⟩:=e1
 refine ⟨A,c,B,d,some ⟨g,0,none⟩,e,b,2,g,h0,rfl,hb1,hlt,h3,fun u' L' hl hgb hrow=>?_⟩
 have hmem:g ∈ Ae (ψ (some ⟨g,0,none⟩) x.cells.length e):=by simp [Ae]
 have p0:∀ y ∈ Ae (ψ A x.counts.length c),y ∉ Ae (ψ (some ⟨g,0,none⟩) x.cells.length e):=(List.pairwise_iff_getElem.1 h10) 0 2 (by simp) (by simp) (by omega)
 have n0:g ∉ Ae (ψ A x.counts.length c):=fun hm=>p0 g hm hmem
 have p1:∀ y ∈ Ae (ψ B x.trusts.length d),y ∉ Ae (ψ (some ⟨g,0,none⟩) x.cells.length e):=(List.pairwise_iff_getElem.1 h10) 1 2 (by simp) (by simp) (by omega)
 have n1:g ∉ Ae (ψ B x.trusts.length d):=fun hm=>p1 g hm hmem
 have p3:∀ y ∈ Ae (ψ (some ⟨g,0,none⟩) x.cells.length e),y ∉ [b]:=(List.pairwise_iff_getElem.1 h10) 2 3 (by simp) (by simp) (by omega)
 have n3:g ≠ b:=fun eq=>p3 g hmem (by rw [eq];simp)
 have p4:∀ y ∈ Ae (ψ (some ⟨g,0,none⟩) x.cells.length e),y ∉ Ae (ψ A0 x.s0.trusts.length c0):=(List.pairwise_iff_getElem.1 h10) 2 4 (by simp) (by simp) (by omega)
 have n4:g ∉ Ae (ψ A0 x.s0.trusts.length c0):=p4 g hmem
 have p5:∀ y ∈ Ae (ψ (some ⟨g,0,none⟩) x.cells.length e),y ∉ Ae (ψ C0 x.s0.cells.length d0):=(List.pairwise_iff_getElem.1 h10) 2 5 (by simp) (by simp) (by omega)
 have n5:g ∉ Ae (ψ C0 x.s0.cells.length d0):=p5 g hmem
 have p6:∀ y ∈ Ae (ψ (some ⟨g,0,none⟩) x.cells.length e),y ∉ Ae (ψ A1 x.s1.trusts.length c1):=(List.pairwise_iff_getElem.1 h10) 2 6 (by simp) (by simp) (by omega)
 have n6:g ∉ Ae (ψ A1 x.s1.trusts.length c1):=p6 g hmem
 have p7:∀ y ∈ Ae (ψ (some ⟨g,0,none⟩) x.cells.length e),y ∉ Ae (ψ C1 x.s1.cells.length d1):=(List.pairwise_iff_getElem.1 h10) 2 7 (by simp) (by simp) (by omega)
 have n7:g ∉ Ae (ψ C1 x.s1.cells.length d1):=p7 g hmem
 refine ⟨A,c,B,d,some ⟨g,0,none⟩,e,b,A0,c0,C0,d0,A1,c1,C1,d1,?_,AK h1 hgb n0,AK h2 hgb n1,hrow,h4,h5.grown hgb (by intro eq;injection eq with eq;exact n3 eq.symm),AK h6 hgb n4,AK h7 hgb n5,AK h8 hgb n6,AK h9 hgb n7,?_⟩
 ·simp only [];rw [hl];exact h0
 ·simp only [];rw [hl];exact h10
theorem Hi {w w1:World} {r:Nat} {x0 x1 x2 x3 x4 x5 x6 x7 z0 z1 z2 z3 z4 z5 z6 z7:Value} (hk:Aa w1 r 94 #[z0,z1,z2,z3,z4,z5,z6,z7]) (hb:Below w.1.size w w1) (hr:w.1.size <= r):
    ∃ w4,((((((((w1.setCell ⟨r,0,none⟩ x0).setCell ⟨r,1,none⟩ x1).setCell ⟨r,2,none⟩ x2).setCell ⟨r,3,none⟩ x3).setCell ⟨r,4,none⟩ x4).setCell ⟨r,5,none⟩ x5).setCell ⟨r,6,none⟩ x6).setCell ⟨r,7,none⟩ x7) = w4 /\ (w4.cell? ⟨r,0,none⟩ = some x0 /\ w4.cell? ⟨r,1,none⟩ = some x1 /\ w4.cell? ⟨r,2,none⟩ = some x2 /\ w4.cell? ⟨r,3,none⟩ = some x3 /\ w4.cell? ⟨r,4,none⟩ = some x4 /\ w4.cell? ⟨r,5,none⟩ = some x5 /\ w4.cell? ⟨r,6,none⟩ = some x6 /\ w4.cell? ⟨r,7,none⟩ = some x7) /\ Aa w4 r 94 #[x0,x1,x2,x3,x4,x5,x6,x7] /\ Below w.1.size w w4 /\ w1.grownBy w4 (some r):=by
 have h0:=((((((((hk.set_ 0 x0).set_ 1 x1).set_ 2 x2).set_ 3 x3).set_ 4 x4).set_ 5 x5).set_ 6 x6).set_ 7 x7)
 simp only [List.setIfInBounds_toArray,List.set_cons_zero,List.set_cons_succ] at h0
 refine ⟨_,rfl,?_,h0,((((((((hb.setCell (p:=⟨r,0,none⟩) hr x0).setCell (p:=⟨r,1,none⟩) hr x1).setCell (p:=⟨r,2,none⟩) hr x2).setCell (p:=⟨r,3,none⟩) hr x3).setCell (p:=⟨r,4,none⟩) hr x4).setCell (p:=⟨r,5,none⟩) hr x5).setCell (p:=⟨r,6,none⟩) hr x6).setCell (p:=⟨r,7,none⟩) hr x7),(Ai (Ai (Ai (Ai (Ai (Ai (Ai (Ai (Aj w1 (some r)) 0 x0) 1 x1) 2 x2) 3 x3) 4 x4) 5 x5) 6 x6) 7 x7)⟩
 generalize World.setCell _ _ _ = w4 at h0 |-
 exact ⟨h0.cell 0,h0.cell 1,h0.cell 2,h0.cell 3,h0.cell 4,h0.cell 5,h0.cell 6,h0.cell 7⟩
noncomputable def Cu (key:Int) (t:Tru) (next:Bool) (a b c a' b' c':Int):Tru:=
 match next with
 | true=>⟨t.clock,t.epoch,t.cursor,t.read,t.written,Bf t.nread (Di key a b c),Bf t.nwritten (Di key a' b' c'),t.failed⟩
 | false=>⟨t.clock,t.epoch,t.cursor,Bf t.read (Di key a b c),Bf t.written (Di key a' b' c'),t.nread,t.nwritten,t.failed⟩
theorem Fk:(∀ (key:Int) (A:Option Addr) (n cap:Nat) (t0 t1 t2 t3 t4 t5 t6:Int) (t7:Bool) (a b c a' b' c':Int) (w:World),Calls prog 199 #[σ #[O U key,ψ A n cap],σ #[O U t0,O U t1,O U t2,O U t3,O U t4,O U t5,O U t6,φ t7],φ true,σ #[O U a,O U b,O U c],σ #[O U a',O U b',O U c']] w fun e w'=>e = τ (σ #[O U (Cu key ⟨t0,t1,t2,t3,t4,t5,t6,t7⟩ true a b c a' b' c').clock,O U (Cu key ⟨t0,t1,t2,t3,t4,t5,t6,t7⟩ true a b c a' b' c').epoch,O U (Cu key ⟨t0,t1,t2,t3,t4,t5,t6,t7⟩ true a b c a' b' c').cursor,O U (Cu key ⟨t0,t1,t2,t3,t4,t5,t6,t7⟩ true a b c a' b' c').read,O U (Cu key ⟨t0,t1,t2,t3,t4,t5,t6,t7⟩ true a b c a' b' c').written,O U (Cu key ⟨t0,t1,t2,t3,t4,t5,t6,t7⟩ true a b c a' b' c').nread,O U (Cu key ⟨t0,t1,t2,t3,t4,t5,t6,t7⟩ true a b c a' b' c').nwritten,φ (Cu key ⟨t0,t1,t2,t3,t4,t5,t6,t7⟩ true a b c a' b' c').failed]) /\ Below w.1.size w w') /\
 (∀ (key:Int) (A:Option Addr) (n cap:Nat) (t0 t1 t2 t3 t4 t5 t6:Int) (t7:Bool) (a b c a' b' c':Int) (w:World),Calls prog 199 #[σ #[O U key,ψ A n cap],σ #[O U t0,O U t1,O U t2,O U t3,O U t4,O U t5,O U t6,φ t7],φ false,σ #[O U a,O U b,O U c],σ #[O U a',O U b',O U c']] w fun e w'=>e = τ (σ #[O U (Cu key ⟨t0,t1,t2,t3,t4,t5,t6,t7⟩ false a b c a' b' c').clock,O U (Cu key ⟨t0,t1,t2,t3,t4,t5,t6,t7⟩ false a b c a' b' c').epoch,O U (Cu key ⟨t0,t1,t2,t3,t4,t5,t6,t7⟩ false a b c a' b' c').cursor,O U (Cu key ⟨t0,t1,t2,t3,t4,t5,t6,t7⟩ false a b c a' b' c').read,O U (Cu key ⟨t0,t1,t2,t3,t4,t5,t6,t7⟩ false a b c a' b' c').written,O U (Cu key ⟨t0,t1,t2,t3,t4,t5,t6,t7⟩ false a b c a' b' c').nread,O U (Cu key ⟨t0,t1,t2,t3,t4,t5,t6,t7⟩ false a b c a' b' c').nwritten,φ (Cu key ⟨t0,t1,t2,t3,t4,t5,t6,t7⟩ false a b c a' b' c').failed]) /\ Below w.1.size w w'):=by
 refine ⟨fun key A n cap t0 t1 t2 t3 t4 t5 t6 t7 a b c a' b' c' w=>(fun (z_1:True)=>?_) trivial,fun key A n cap t0 t1 t2 t3 t4 t5 t6 t7 a b c a' b' c' w=>(fun (z_2:True)=>?_) trivial⟩
 all_goals
  have k0:=(((((Kept.refl w).new 26 #[O U key,ψ A n cap]).new 94 #[O U t0,O U t1,O U t2,O U t3,O U t4,O U t5,O U t6,φ t7]).new 159 #[O U a,O U b,O U c]).new 159 #[O U a',O U b',O U c']).new 94 #[O U 0,O U 0,O U 0,O U 0,O U 0,O U 0,O U 0,φ false]
  rw [show ((((w.alloc (.cells #[O U key,ψ A n cap] 26)).alloc (.cells #[O U t0,O U t1,O U t2,O U t3,O U t4,O U t5,O U t6,φ t7] 94)).alloc (.cells #[O U a,O U b,O U c] 159)).alloc (.cells #[O U a',O U b',O U c'] 159)).1.size = w.1.size + 1 + 1 + 1 + 1 by simp,show (((w.alloc (.cells #[O U key,ψ A n cap] 26)).alloc (.cells #[O U t0,O U t1,O U t2,O U t3,O U t4,O U t5,O U t6,φ t7] 94)).alloc (.cells #[O U a,O U b,O U c] 159)).1.size = w.1.size + 1 + 1 + 1 by simp,show ((w.alloc (.cells #[O U key,ψ A n cap] 26)).alloc (.cells #[O U t0,O U t1,O U t2,O U t3,O U t4,O U t5,O U t6,φ t7] 94)).1.size = w.1.size + 1 + 1 by simp,show (w.alloc (.cells #[O U key,ψ A n cap] 26)).1.size = w.1.size + 1 by simp] at k0
  have K0:=hid k0
  have C:=hid (fun u=>Ej key a b c u)
  have D:=hid (fun u=>Ej key a' b' c' u)
  clear k0
  simp only [Cu]
  generalize Di key a b c = u at C |-
  generalize Di key a' b' c' = v at D |-
  go_enter func199,ntmps199
  go_wp2_with fail
  refine (C.out _).mono ?_;rintro e w1 ⟨rfl,b1⟩
  have k1:=K0.out.below b1
  have p0:w1.cell? ⟨w.1.size,0,none⟩ = some (O U key):=k1.cell (p:=w.1.size) (t:=26) (cs:=#[O U key,ψ A n cap]) (by simp) 0
  have g0:w1.cell? ⟨w.1.size + 1 + 1 + 1,0,none⟩ = some (O U a'):=k1.cell (p:=w.1.size + 1 + 1 + 1) (t:=159) (cs:=#[O U a',O U b',O U c']) (by simp) 0
  have g1:w1.cell? ⟨w.1.size + 1 + 1 + 1,1,none⟩ = some (O U b'):=k1.cell (p:=w.1.size + 1 + 1 + 1) (t:=159) (cs:=#[O U a',O U b',O U c']) (by simp) 1
  have g2:w1.cell? ⟨w.1.size + 1 + 1 + 1,2,none⟩ = some (O U c'):=k1.cell (p:=w.1.size + 1 + 1 + 1) (t:=159) (cs:=#[O U a',O U b',O U c']) (by simp) 2
  have K1:=hid k1
  clear b1 k1 C K0
  go_wp2_with fail
  refine (D.out _).mono ?_;rintro e w2 ⟨rfl,b2⟩
  have k2:=K1.out.below b2
  first
   | guard_hyp z_1
     have q5:w2.cell? ⟨w.1.size + 1,5,none⟩ = some (O U t5):=k2.cell (p:=w.1.size + 1) (t:=94) (cs:=#[O U t0,O U t1,O U t2,O U t3,O U t4,O U t5,O U t6,φ t7]) (by simp) 5
     have q6:w2.cell? ⟨w.1.size + 1,6,none⟩ = some (O U t6):=k2.cell (p:=w.1.size + 1) (t:=94) (cs:=#[O U t0,O U t1,O U t2,O U t3,O U t4,O U t5,O U t6,φ t7]) (by simp) 6
     have f5:=k2.frozen (p:=w.1.size + 1) (t:=94) (cs:=#[O U t0,O U t1,O U t2,O U t3,O U t4,O U t5,O U t6,φ t7]) (by simp) 5
     have f6:=k2.frozen (p:=w.1.size + 1) (t:=94) (cs:=#[O U t0,O U t1,O U t2,O U t3,O U t4,O U t5,O U t6,φ t7]) (by simp) 6
   | have q3:w2.cell? ⟨w.1.size + 1,3,none⟩ = some (O U t3):=k2.cell (p:=w.1.size + 1) (t:=94) (cs:=#[O U t0,O U t1,O U t2,O U t3,O U t4,O U t5,O U t6,φ t7]) (by simp) 3
     have q4:w2.cell? ⟨w.1.size + 1,4,none⟩ = some (O U t4):=k2.cell (p:=w.1.size + 1) (t:=94) (cs:=#[O U t0,O U t1,O U t2,O U t3,O U t4,O U t5,O U t6,φ t7]) (by simp) 4
     have f3:=k2.frozen (p:=w.1.size + 1) (t:=94) (cs:=#[O U t0,O U t1,O U t2,O U t3,O U t4,O U t5,O U t6,φ t7]) (by simp) 3
     have f4:=k2.frozen (p:=w.1.size + 1) (t:=94) (cs:=#[O U t0,O U t1,O U t2,O U t3,O U t4,O U t5,O U t6,φ t7]) (by simp) 4
  have k3:Kept w [(w.1.size + 1,94,#[O U t0,O U t1,O U t2,O U t3,O U t4,O U t5,O U t6,φ t7]),(w.1.size + 1 + 1 + 1 + 1,94,#[O U 0,O U 0,O U 0,O U 0,O U 0,O U 0,O U 0,φ false])] w2:=k2.sub (by intro x hx;simp at hx;rcases hx with rfl | rfl <;> simp)
  first
   | guard_hyp z_1
     have K3:=hid ((k3.set (by intro x hx;simp at hx;subst hx;simp <;> omega) 5 (O U (Bf t5 u))).set (by intro x hx;simp at hx;subst hx;simp <;> omega) 6 (O U (Bf t6 v)))
   | have K3:=hid ((k3.set (by intro x hx;simp at hx;subst hx;simp <;> omega) 3 (O U (Bf t3 u))).set (by intro x hx;simp at hx;subst hx;simp <;> omega) 4 (O U (Bf t4 v)))
  clear b2 k2 k3 D K1 p0 g0 g1 g2
  go_wp2_with fail
  refine (El _ _ _).mono ?_;rintro e w' ⟨rfl,rfl⟩
  go_wp2_with fail
  refine (El _ _ _).mono ?_;rintro e w' ⟨rfl,rfl⟩
  go_upto_region 8 with fail
  first
   | guard_hyp z_1
     have k4:Kept w [(w.1.size + 1,94,#[O U t0,O U t1,O U t2,O U t3,O U t4,O U (Bf t5 u),O U (Bf t6 v),φ t7]),(w.1.size + 1 + 1 + 1 + 1,94,#[O U 0,O U 0,O U 0,O U 0,O U 0,O U 0,O U 0,φ false])] ((w2.setCell ⟨w.1.size + 1,5,none⟩ (O U (Bf t5 u))).setCell ⟨w.1.size + 1,6,none⟩ (O U (Bf t6 v))):=K3.out
     clear K3 q5 q6 f5 f6
   | have k4:Kept w [(w.1.size + 1,94,#[O U t0,O U t1,O U t2,O U (Bf t3 u),O U (Bf t4 v),O U t5,O U t6,φ t7]),(w.1.size + 1 + 1 + 1 + 1,94,#[O U 0,O U 0,O U 0,O U 0,O U 0,O U 0,O U 0,φ false])] ((w2.setCell ⟨w.1.size + 1,3,none⟩ (O U (Bf t3 u))).setCell ⟨w.1.size + 1,4,none⟩ (O U (Bf t4 v))):=K3.out
     clear K3 q3 q4 f3 f4
  generalize World.setCell _ _ _ = w3 at k4 |-
  have a0:w3.cell? ⟨w.1.size + 1,0,none⟩ = some (O U t0):=k4.cell (List.mem_cons_self ..) 0
  have a1:w3.cell? ⟨w.1.size + 1,1,none⟩ = some (O U t1):=k4.cell (List.mem_cons_self ..) 1
  have a2:w3.cell? ⟨w.1.size + 1,2,none⟩ = some (O U t2):=k4.cell (List.mem_cons_self ..) 2
  first
   | guard_hyp z_1
     have a3:w3.cell? ⟨w.1.size + 1,3,none⟩ = some (O U t3):=k4.cell (List.mem_cons_self ..) 3
     have a4:w3.cell? ⟨w.1.size + 1,4,none⟩ = some (O U t4):=k4.cell (List.mem_cons_self ..) 4
     have a5:w3.cell? ⟨w.1.size + 1,5,none⟩ = some (O U (Bf t5 u)):=k4.cell (List.mem_cons_self ..) 5
     have a6:w3.cell? ⟨w.1.size + 1,6,none⟩ = some (O U (Bf t6 v)):=k4.cell (List.mem_cons_self ..) 6
   | have a3:w3.cell? ⟨w.1.size + 1,3,none⟩ = some (O U (Bf t3 u)):=k4.cell (List.mem_cons_self ..) 3
     have a4:w3.cell? ⟨w.1.size + 1,4,none⟩ = some (O U (Bf t4 v)):=k4.cell (List.mem_cons_self ..) 4
     have a5:w3.cell? ⟨w.1.size + 1,5,none⟩ = some (O U t5):=k4.cell (List.mem_cons_self ..) 5
     have a6:w3.cell? ⟨w.1.size + 1,6,none⟩ = some (O U t6):=k4.cell (List.mem_cons_self ..) 6
  have a7:w3.cell? ⟨w.1.size + 1,7,none⟩ = some (φ t7):=k4.cell (List.mem_cons_self ..) 7
  have r0:w3.cell? ⟨w.1.size + 1 + 1 + 1 + 1,0,none⟩ = some (O U 0):=k4.tail.cell (List.mem_cons_self ..) 0
  have r1:w3.cell? ⟨w.1.size + 1 + 1 + 1 + 1,1,none⟩ = some (O U 0):=k4.tail.cell (List.mem_cons_self ..) 1
  have r2:w3.cell? ⟨w.1.size + 1 + 1 + 1 + 1,2,none⟩ = some (O U 0):=k4.tail.cell (List.mem_cons_self ..) 2
  have r3:w3.cell? ⟨w.1.size + 1 + 1 + 1 + 1,3,none⟩ = some (O U 0):=k4.tail.cell (List.mem_cons_self ..) 3
  have r4:w3.cell? ⟨w.1.size + 1 + 1 + 1 + 1,4,none⟩ = some (O U 0):=k4.tail.cell (List.mem_cons_self ..) 4
  have r5:w3.cell? ⟨w.1.size + 1 + 1 + 1 + 1,5,none⟩ = some (O U 0):=k4.tail.cell (List.mem_cons_self ..) 5
  have r6:w3.cell? ⟨w.1.size + 1 + 1 + 1 + 1,6,none⟩ = some (O U 0):=k4.tail.cell (List.mem_cons_self ..) 6
  have r7:w3.cell? ⟨w.1.size + 1 + 1 + 1 + 1,7,none⟩ = some (φ false):=k4.tail.cell (List.mem_cons_self ..) 7
  have h0:=k4.tail.frozen (List.mem_cons_self ..) 0
  have h1:=k4.tail.frozen (List.mem_cons_self ..) 1
  have h2:=k4.tail.frozen (List.mem_cons_self ..) 2
  have h3:=k4.tail.frozen (List.mem_cons_self ..) 3
  have h4:=k4.tail.frozen (List.mem_cons_self ..) 4
  have h5:=k4.tail.frozen (List.mem_cons_self ..) 5
  have h6:=k4.tail.frozen (List.mem_cons_self ..) 6
  have h7:=k4.tail.frozen (List.mem_cons_self ..) 7
  have K4:=hid k4
  clear k4
  go_wp2_with fail
  first
   | guard_hyp z_1
     obtain ⟨w9,e9,⟨d0,d1,d2,d3,d4,d5,d6,d7⟩,-,hb,-⟩:=Hi (x0:=O U t0) (x1:=O U t1) (x2:=O U t2) (x3:=O U t3) (x4:=O U t4) (x5:=O U (Bf t5 u)) (x6:=O U (Bf t6 v)) (x7:=φ t7) (K4.out.tail.at_ (List.mem_cons_self ..)) K4.out.1 (by omega)
   | obtain ⟨w9,e9,⟨d0,d1,d2,d3,d4,d5,d6,d7⟩,-,hb,-⟩:=Hi (x0:=O U t0) (x1:=O U t1) (x2:=O U t2) (x3:=O U (Bf t3 u)) (x4:=O U (Bf t4 v)) (x5:=O U t5) (x6:=O U t6) (x7:=φ t7) (K4.out.tail.at_ (List.mem_cons_self ..)) K4.out.1 (by omega)
  rw [e9]
  clear e9
  first
   | guard_hyp z_1
     exact bodyPost_ret (v:=σ #[O U t0,O U t1,O U t2,O U t3,O U t4,O U (Bf t5 u),O U (Bf t6 v),φ t7]) (by simp [results,results199,go_sem,d0,d1,d2,d3,d4,d5,d6,d7]) rfl ⟨rfl,hb⟩
   | exact bodyPost_ret (v:=σ #[O U t0,O U t1,O U t2,O U (Bf t3 u),O U (Bf t4 v),O U t5,O U t6,φ t7]) (by simp [results,results199,go_sem,d0,d1,d2,d3,d4,d5,d6,d7]) rfl ⟨rfl,hb⟩
theorem OV:type_of% Fk.1:=Fk.1
theorem Nk:type_of% Fk.2:=Fk.2

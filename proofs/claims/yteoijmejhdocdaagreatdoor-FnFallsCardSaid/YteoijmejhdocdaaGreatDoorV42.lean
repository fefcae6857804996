import Derived.Test.YteoijmejhdocdaaGreatDoorV35
namespace Go.Proofs.YteoijmejhdocdaaGreatDoor.Mx
open Go.ChangeShapes Go.WideShapes Go.ChangeAt Go.RowKit
set_option linter.unusedVariables false
open Go.Lib (hid)
open Go.Proofs.Tryz
set_option maxRecDepth 20000
set_option maxHeartbeats 64000000
open Value renaming int → O, slice → ψ, bool → φ, agg → σ
open IntKind renaming i64 → U
noncomputable def Do (x:VolG) (a:Int):Option VolN × Int:=if x.okB then (some (Ah x.toN a).1,(Ah x.toN a).2) else (none,1)
noncomputable def Dt (x:VolG)  : Option VolN × Int:=if x.okB then (some (Bc x.toN ).1,(Bc x.toN ).2) else (none,1)
noncomputable def CN (x:VolG) (a:Int):Option VolN × Int:=if x.okB then (some (Bw x.toN a).1,(Bw x.toN a).2) else (none,1)
theorem Gz (x:VolG) (v:Value) (a:Int) (w:World) (hx:x.Short) (hi:x.Int64) (h:RdG w w.1.size x v)  :
    Calls prog 28 #[v,O U a] w (Ans2 w (Do x a)):=by
 have VK:=hid (fun (u:World) (hb:Below w.1.size w u)=>DG x v u hx hi (h.grow hb))
 by_cases hok:x.okB = true
 ·obtain ⟨h2,hinv⟩:=VolG.inv hi hok
  have he:Do x a = (some (Ah x.toN a).1,(Ah x.toN a).2):=if_pos hok
  rw [he]
  rw [hok] at VK
  obtain ⟨A,c,B,d,C,e,b,off,s,rfl,i1,i2,i3,i4,i5,i6,i7⟩:=h.two h2
  generalize x.toN = y at *
  clear he h hok h2
  have K0:=hid (show Kept w [(w.1.size + 1,31,#[O U 0,ψ none 0 0,ψ none 0 0,ψ none 0 0,ψ none 0 0,O U 0]),(w.1.size,31,#[O U y.key,ψ A y.counts.length c,ψ B y.trusts.length d,ψ C y.cells.length e,ψ (some ⟨b,off,none⟩) 2 s,O U y.count])] _ from (((Kept.refl w).put1 _ _ #[O U y.key,ψ A y.counts.length c,ψ B y.trusts.length d,ψ C y.cells.length e,ψ (some ⟨b,off,none⟩) 2 s,O U y.count] rfl).put1 _ _ #[O U 0,ψ none 0 0,ψ none 0 0,ψ none 0 0,ψ none 0 0,O U 0] (by simp)))
  have TO:=hid (fun (u:World) (hb:Below w.1.size w u)=>by
   obtain ⟨j1,j2,j3,j4,j5,j6⟩:=RdG.has (c:=c) (d:=d) (e:=e) (s:=s) ⟨i1,i2,i3,i4,i5,i6⟩ hb
   exact Hk y _ u hinv ⟨A,c,B,d,C,e,b,off,s,rfl,j1,j2,j3,j4,j5,j6,i7⟩ a)
  obtain ⟨⟨z,p⟩,hz⟩:∃ Y,Y = Ah y a:=⟨_,rfl⟩
  rw [<- hz] at TO |-
  clear hz i1 i2 i3 i4 i5 i6 i7 hinv
  go_enter func28,ntmps28
  go_wp2_with fail
  obtain ⟨X0,Y0,X1,Y1,-⟩:=K0.out.rd
  go_wp2_with fail
  refine (VK.out _ K0.out.1).mono ?_;rintro e u1 ⟨rfl,hb1⟩
  have hk1:=K0.out.below hb1
  clear hb1 X0 Y0 X1 Y1 VK
  obtain ⟨X0,Y0,X1,Y1,-⟩:=hk1.rd
  go_wp2_with fail
  refine (TO.out _ hk1.1).mono ?_;rintro e u2 ⟨cs,rfl,hv1,hb1⟩
  obtain ⟨A',c',B',d',C',e',b',o',s',e1,-⟩:=hv1.reads
  injection e1 with e1
  subst e1
  have hk2:=hk1.below hb1
  have lo1:w.1.size + 1 < u1.1.size:=hk1.lt (x:=(w.1.size + 1,31,#[O U 0,ψ none 0 0,ψ none 0 0,ψ none 0 0,ψ none 0 0,O U 0])) (by simp)
  have hv2:=hv1.mono (show w.1.size + 1 + 1 <= _ by omega)
  have lo0:w.1.size + 1 < u2.1.size:=hk2.lt (x:=(w.1.size + 1,31,#[O U 0,ψ none 0 0,ψ none 0 0,ψ none 0 0,ψ none 0 0,O U 0])) (by simp)
  clear hb1 hv1 X0 Y0 X1 Y1 TO hk1
  obtain ⟨X0,Y0,X1,Y1,-⟩:=hk2.rd
  have HV:=hid hv2
  clear hv2
  go_wp2_with fail
  obtain ⟨w9,e9,⟨d0,d1,d2,d3,d4,d5⟩,hb9,hg9⟩:=AN (w:=w) (x0:=O U z.key) (x1:=ψ A' z.counts.length c') (x2:=ψ B' z.trusts.length d') (x3:=ψ C' z.cells.length e') (x4:=ψ (some ⟨b',o',none⟩) 2 s') (x5:=O U z.count) (hk2.at_ (p:=w.1.size + 1) (t:=31) (cs:=#[O U 0,ψ none 0 0,ψ none 0 0,ψ none 0 0,ψ none 0 0,O U 0]) (by simp)) hk2.1 (by omega)
  rw [e9]
  exact bodyPost_ret (v:=.tuple #[σ #[O U z.key,ψ A' z.counts.length c',ψ B' z.trusts.length d',ψ C' z.cells.length e',(ψ (some ⟨b',o',none⟩) 2 s'),O U z.count],O U p]) (by simp [results,results28,go_sem,d0,d1,d2,d3,d4,d5]) rfl ⟨_,rfl,(HV.out.out hg9 (by omega)).mono (by omega),hb9⟩
 ·have he:Do x a = (none,1):=if_neg hok
  have hok':x.okB = false:=by simpa using hok
  rw [he]
  rw [hok'] at VK
  obtain ⟨A,c,B,d,C,e,E,s,rfl,-⟩:=h
  clear he hok hok'
  have K0:=hid (show Kept w [(w.1.size + 1,31,#[O U 0,ψ none 0 0,ψ none 0 0,ψ none 0 0,ψ none 0 0,O U 0]),(w.1.size,31,#[O U x.key,ψ A x.counts.length c,ψ B x.trusts.length d,ψ C x.cells.length e,ψ E x.slots.length s,O U x.count])] _ from (((Kept.refl w).put1 _ _ #[O U x.key,ψ A x.counts.length c,ψ B x.trusts.length d,ψ C x.cells.length e,ψ E x.slots.length s,O U x.count] rfl).put1 _ _ #[O U 0,ψ none 0 0,ψ none 0 0,ψ none 0 0,ψ none 0 0,O U 0] (by simp)))
  go_enter func28,ntmps28
  go_wp2_with fail
  obtain ⟨X0,Y0,X1,Y1,-⟩:=K0.out.rd
  go_wp2_with fail
  refine (VK.out _ K0.out.1).mono ?_;rintro e u1 ⟨rfl,hb1⟩
  have hk1:=K0.out.below hb1
  have lo0:w.1.size + 1 < u1.1.size:=hk1.lt (x:=(w.1.size + 1,31,#[O U 0,ψ none 0 0,ψ none 0 0,ψ none 0 0,ψ none 0 0,O U 0])) (by simp)
  clear hb1 X0 Y0 X1 Y1 VK K0
  obtain ⟨X0,Y0,X1,Y1,-⟩:=hk1.rd
  go_wp2_with fail
  obtain ⟨w9,e9,⟨d0,d1,d2,d3,d4,d5⟩,hb9,-⟩:=AN (w:=w) (x0:=O U 0) (x1:=ψ none 0 0) (x2:=ψ none 0 0) (x3:=ψ none 0 0) (x4:=ψ none 0 0) (x5:=O U 0) (hk1.at_ (p:=w.1.size + 1) (t:=31) (cs:=#[O U 0,ψ none 0 0,ψ none 0 0,ψ none 0 0,ψ none 0 0,O U 0]) (by simp)) hk1.1 (by omega)
  rw [e9]
  exact bodyPost_ret (v:=.tuple #[σ #[O U 0,ψ none 0 0,ψ none 0 0,ψ none 0 0,ψ none 0 0,O U 0],O U 1]) (by simp [results,results28,go_sem,d0,d1,d2,d3,d4,d5]) rfl ⟨_,rfl,rfl,hb9⟩
theorem LW (x:VolG) (v:Value)  (w:World) (hx:x.Short) (hi:x.Int64) (h:RdG w w.1.size x v)  :
    Calls prog 31 #[v] w (Ans2 w (Dt x )):=by
 have VK:=hid (fun (u:World) (hb:Below w.1.size w u)=>DG x v u hx hi (h.grow hb))
 by_cases hok:x.okB = true
 ·obtain ⟨h2,hinv⟩:=VolG.inv hi hok
  have he:Dt x  = (some (Bc x.toN).1,(Bc x.toN).2):=if_pos hok
  rw [he]
  rw [hok] at VK
  obtain ⟨A,c,B,d,C,e,b,off,s,rfl,i1,i2,i3,i4,i5,i6,i7⟩:=h.two h2
  generalize x.toN = y at *
  clear he h hok h2
  have K0:=hid (show Kept w [(w.1.size + 1,31,#[O U 0,ψ none 0 0,ψ none 0 0,ψ none 0 0,ψ none 0 0,O U 0]),(w.1.size,31,#[O U y.key,ψ A y.counts.length c,ψ B y.trusts.length d,ψ C y.cells.length e,ψ (some ⟨b,off,none⟩) 2 s,O U y.count])] _ from (((Kept.refl w).put1 _ _ #[O U y.key,ψ A y.counts.length c,ψ B y.trusts.length d,ψ C y.cells.length e,ψ (some ⟨b,off,none⟩) 2 s,O U y.count] rfl).put1 _ _ #[O U 0,ψ none 0 0,ψ none 0 0,ψ none 0 0,ψ none 0 0,O U 0] (by simp)))
  have TO:=hid (fun (u:World) (hb:Below w.1.size w u)=>by
   obtain ⟨j1,j2,j3,j4,j5,j6⟩:=RdG.has (c:=c) (d:=d) (e:=e) (s:=s) ⟨i1,i2,i3,i4,i5,i6⟩ hb
   exact Ms y _ u hinv ⟨A,c,B,d,C,e,b,off,s,rfl,j1,j2,j3,j4,j5,j6,i7⟩)
  obtain ⟨⟨z,p⟩,hz⟩:∃ Y,Y = Bc y:=⟨_,rfl⟩
  rw [<- hz] at TO |-
  clear hz i1 i2 i3 i4 i5 i6 i7 hinv
  go_enter func31,ntmps31
  go_wp2_with fail
  obtain ⟨X0,Y0,X1,Y1,-⟩:=K0.out.rd
  go_wp2_with fail
  refine (VK.out _ K0.out.1).mono ?_;rintro e u1 ⟨rfl,hb1⟩
  have hk1:=K0.out.below hb1
  clear hb1 X0 Y0 X1 Y1 VK
  obtain ⟨X0,Y0,X1,Y1,-⟩:=hk1.rd
  go_wp2_with fail
  refine (TO.out _ hk1.1).mono ?_;rintro e u2 ⟨cs,rfl,hv1,hb1⟩
  obtain ⟨A',c',B',d',C',e',b',o',s',e1,-⟩:=hv1.reads
  injection e1 with e1
  subst e1
  have hk2:=hk1.below hb1
  have lo1:w.1.size + 1 < u1.1.size:=hk1.lt (x:=(w.1.size + 1,31,#[O U 0,ψ none 0 0,ψ none 0 0,ψ none 0 0,ψ none 0 0,O U 0])) (by simp)
  have hv2:=hv1.mono (show w.1.size + 1 + 1 <= _ by omega)
  have lo0:w.1.size + 1 < u2.1.size:=hk2.lt (x:=(w.1.size + 1,31,#[O U 0,ψ none 0 0,ψ none 0 0,ψ none 0 0,ψ none 0 0,O U 0])) (by simp)
  clear hb1 hv1 X0 Y0 X1 Y1 TO hk1
  obtain ⟨X0,Y0,X1,Y1,-⟩:=hk2.rd
  have HV:=hid hv2
  clear hv2
  go_wp2_with fail
  obtain ⟨w9,e9,⟨d0,d1,d2,d3,d4,d5⟩,hb9,hg9⟩:=AN (w:=w) (x0:=O U z.key) (x1:=ψ A' z.counts.length c') (x2:=ψ B' z.trusts.length d') (x3:=ψ C' z.cells.length e') (x4:=ψ (some ⟨b',o',none⟩) 2 s') (x5:=O U z.count) (hk2.at_ (p:=w.1.size + 1) (t:=31) (cs:=#[O U 0,ψ none 0 0,ψ none 0 0,ψ none 0 0,ψ none 0 0,O U 0]) (by simp)) hk2.1 (by omega)
  rw [e9]
  exact bodyPost_ret (v:=.tuple #[σ #[O U z.key,ψ A' z.counts.length c',ψ B' z.trusts.length d',ψ C' z.cells.length e',(ψ (some ⟨b',o',none⟩) 2 s'),O U z.count],O U p]) (by simp [results,results31,go_sem,d0,d1,d2,d3,d4,d5]) rfl ⟨_,rfl,(HV.out.out hg9 (by omega)).mono (by omega),hb9⟩
 ·have he:Dt x  = (none,1):=if_neg hok
  have hok':x.okB = false:=by simpa using hok
  rw [he]
  rw [hok'] at VK
  obtain ⟨A,c,B,d,C,e,E,s,rfl,-⟩:=h
  clear he hok hok'
  have K0:=hid (show Kept w [(w.1.size + 1,31,#[O U 0,ψ none 0 0,ψ none 0 0,ψ none 0 0,ψ none 0 0,O U 0]),(w.1.size,31,#[O U x.key,ψ A x.counts.length c,ψ B x.trusts.length d,ψ C x.cells.length e,ψ E x.slots.length s,O U x.count])] _ from (((Kept.refl w).put1 _ _ #[O U x.key,ψ A x.counts.length c,ψ B x.trusts.length d,ψ C x.cells.length e,ψ E x.slots.length s,O U x.count] rfl).put1 _ _ #[O U 0,ψ none 0 0,ψ none 0 0,ψ none 0 0,ψ none 0 0,O U 0] (by simp)))
  go_enter func31,ntmps31
  go_wp2_with fail
  obtain ⟨X0,Y0,X1,Y1,-⟩:=K0.out.rd
  go_wp2_with fail
  refine (VK.out _ K0.out.1).mono ?_;rintro e u1 ⟨rfl,hb1⟩
  have hk1:=K0.out.below hb1
  have lo0:w.1.size + 1 < u1.1.size:=hk1.lt (x:=(w.1.size + 1,31,#[O U 0,ψ none 0 0,ψ none 0 0,ψ none 0 0,ψ none 0 0,O U 0])) (by simp)
  clear hb1 X0 Y0 X1 Y1 VK K0
  obtain ⟨X0,Y0,X1,Y1,-⟩:=hk1.rd
  go_wp2_with fail
  obtain ⟨w9,e9,⟨d0,d1,d2,d3,d4,d5⟩,hb9,-⟩:=AN (w:=w) (x0:=O U 0) (x1:=ψ none 0 0) (x2:=ψ none 0 0) (x3:=ψ none 0 0) (x4:=ψ none 0 0) (x5:=O U 0) (hk1.at_ (p:=w.1.size + 1) (t:=31) (cs:=#[O U 0,ψ none 0 0,ψ none 0 0,ψ none 0 0,ψ none 0 0,O U 0]) (by simp)) hk1.1 (by omega)
  rw [e9]
  exact bodyPost_ret (v:=.tuple #[σ #[O U 0,ψ none 0 0,ψ none 0 0,ψ none 0 0,ψ none 0 0,O U 0],O U 1]) (by simp [results,results31,go_sem,d0,d1,d2,d3,d4,d5]) rfl ⟨_,rfl,rfl,hb9⟩
theorem LE (x:VolG) (v:Value) (a:Int) (w:World) (hx:x.Short) (hi:x.Int64) (h:RdG w w.1.size x v)  :
    Calls prog 34 #[v,O U a] w (Ans2 w (CN x a)):=by
 have VK:=hid (fun (u:World) (hb:Below w.1.size w u)=>DG x v u hx hi (h.grow hb))
 by_cases hok:x.okB = true
 ·obtain ⟨h2,hinv⟩:=VolG.inv hi hok
  have he:CN x a = (some (Bw x.toN a).1,(Bw x.toN a).2):=if_pos hok
  rw [he]
  rw [hok] at VK
  obtain ⟨A,c,B,d,C,e,b,off,s,rfl,i1,i2,i3,i4,i5,i6,i7⟩:=h.two h2
  generalize x.toN = y at *
  clear he h hok h2
  have K0:=hid (show Kept w [(w.1.size + 1,31,#[O U 0,ψ none 0 0,ψ none 0 0,ψ none 0 0,ψ none 0 0,O U 0]),(w.1.size,31,#[O U y.key,ψ A y.counts.length c,ψ B y.trusts.length d,ψ C y.cells.length e,ψ (some ⟨b,off,none⟩) 2 s,O U y.count])] _ from (((Kept.refl w).put1 _ _ #[O U y.key,ψ A y.counts.length c,ψ B y.trusts.length d,ψ C y.cells.length e,ψ (some ⟨b,off,none⟩) 2 s,O U y.count] rfl).put1 _ _ #[O U 0,ψ none 0 0,ψ none 0 0,ψ none 0 0,ψ none 0 0,O U 0] (by simp)))
  have TO:=hid (fun (u:World) (hb:Below w.1.size w u)=>by
   obtain ⟨j1,j2,j3,j4,j5,j6⟩:=RdG.has (c:=c) (d:=d) (e:=e) (s:=s) ⟨i1,i2,i3,i4,i5,i6⟩ hb
   exact Le y _ u hinv ⟨A,c,B,d,C,e,b,off,s,rfl,j1,j2,j3,j4,j5,j6,i7⟩ a)
  obtain ⟨⟨z,p⟩,hz⟩:∃ Y,Y = Bw y a:=⟨_,rfl⟩
  rw [<- hz] at TO |-
  clear hz i1 i2 i3 i4 i5 i6 i7 hinv
  go_enter func34,ntmps34
  go_wp2_with fail
  obtain ⟨X0,Y0,X1,Y1,-⟩:=K0.out.rd
  go_wp2_with fail
  refine (VK.out _ K0.out.1).mono ?_;rintro e u1 ⟨rfl,hb1⟩
  have hk1:=K0.out.below hb1
  clear hb1 X0 Y0 X1 Y1 VK
  obtain ⟨X0,Y0,X1,Y1,-⟩:=hk1.rd
  go_wp2_with fail
  refine (TO.out _ hk1.1).mono ?_;rintro e u2 ⟨cs,rfl,hv1,hb1⟩
  obtain ⟨A',c',B',d',C',e',b',o',s',e1,-⟩:=hv1.reads
  injection e1 with e1
  subst e1
  have hk2:=hk1.below hb1
  have lo1:w.1.size + 1 < u1.1.size:=hk1.lt (x:=(w.1.size + 1,31,#[O U 0,ψ none 0 0,ψ none 0 0,ψ none 0 0,ψ none 0 0,O U 0])) (by simp)
  have hv2:=hv1.mono (show w.1.size + 1 + 1 <= _ by omega)
  have lo0:w.1.size + 1 < u2.1.size:=hk2.lt (x:=(w.1.size + 1,31,#[O U 0,ψ none 0 0,ψ none 0 0,ψ none 0 0,ψ none 0 0,O U 0])) (by simp)
  clear hb1 hv1 X0 Y0 X1 Y1 TO hk1
  obtain ⟨X0,Y0,X1,Y1,-⟩:=hk2.rd
  have HV:=hid hv2
  clear hv2
  go_wp2_with fail
  obtain ⟨w9,e9,⟨d0,d1,d2,d3,d4,d5⟩,hb9,hg9⟩:=AN (w:=w) (x0:=O U z.key) (x1:=ψ A' z.counts.length c') (x2:=ψ B' z.trusts.length d') (x3:=ψ C' z.cells.length e') (x4:=ψ (some ⟨b',o',none⟩) 2 s') (x5:=O U z.count) (hk2.at_ (p:=w.1.size + 1) (t:=31) (cs:=#[O U 0,ψ none 0 0,ψ none 0 0,ψ none 0 0,ψ none 0 0,O U 0]) (by simp)) hk2.1 (by omega)
  rw [e9]
  exact bodyPost_ret (v:=.tuple #[σ #[O U z.key,ψ A' z.counts.length c',ψ B' z.trusts.length d',ψ C' z.cells.length e',(ψ (some ⟨b',o',none⟩) 2 s'),O U z.count],O U p]) (by simp [results,results34,go_sem,d0,d1,d2,d3,d4,d5]) rfl ⟨_,rfl,(HV.out.out hg9 (by omega)).mono (by omega),hb9⟩
 ·have he:CN x a = (none,1):=if_neg hok
  have hok':x.okB = false:=by simpa using hok
  rw [he]
  rw [hok'] at VK
  obtain ⟨A,c,B,d,C,e,E,s,rfl,-⟩:=h
  clear he hok hok'
  have K0:=hid (show Kept w [(w.1.size + 1,31,#[O U 0,ψ none 0 0,ψ none 0 0,ψ none 0 0,ψ none 0 0,O U 0]),(w.1.size,31,#[O U x.key,ψ A x.counts.length c,ψ B x.trusts.length d,ψ C x.cells.length e,ψ E x.slots.length s,O U x.count])] _ from (((Kept.refl w).put1 _ _ #[O U x.key,ψ A x.counts.length c,ψ B x.trusts.length d,ψ C x.cells.length e,ψ E x.slots.length s,O U x.count] rfl).put1 _ _ #[O U 0,ψ none 0 0,ψ none 0 0,ψ none 0 0,ψ none 0 0,O U 0] (by simp)))
  go_enter func34,ntmps34
  go_wp2_with fail
  obtain ⟨X0,Y0,X1,Y1,-⟩:=K0.out.rd
  go_wp2_with fail
  refine (VK.out _ K0.out.1).mono ?_;rintro e u1 ⟨rfl,hb1⟩
  have hk1:=K0.out.below hb1
  have lo0:w.1.size + 1 < u1.1.size:=hk1.lt (x:=(w.1.size + 1,31,#[O U 0,ψ none 0 0,ψ none 0 0,ψ none 0 0,ψ none 0 0,O U 0])) (by simp)
  clear hb1 X0 Y0 X1 Y1 VK K0
  obtain ⟨X0,Y0,X1,Y1,-⟩:=hk1.rd
  go_wp2_with fail
  obtain ⟨w9,e9,⟨d0,d1,d2,d3,d4,d5⟩,hb9,-⟩:=AN (w:=w) (x0:=O U 0) (x1:=ψ none 0 0) (x2:=ψ none 0 0) (x3:=ψ none 0 0) (x4:=ψ none 0 0) (x5:=O U 0) (hk1.at_ (p:=w.1.size + 1) (t:=31) (cs:=#[O U 0,ψ none 0 0,ψ none 0 0,ψ none 0 0,ψ none 0 0,O U 0]) (by simp)) hk1.1 (by omega)
  rw [e9]
  exact bodyPost_ret (v:=.tuple #[σ #[O U 0,ψ none 0 0,ψ none 0 0,ψ none 0 0,ψ none 0 0,O U 0],O U 1]) (by simp [results,results34,go_sem,d0,d1,d2,d3,d4,d5]) rfl ⟨_,rfl,rfl,hb9⟩

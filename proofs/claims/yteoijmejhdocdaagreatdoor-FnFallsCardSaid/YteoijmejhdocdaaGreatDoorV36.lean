import Derived.Test.YteoijmejhdocdaaGreatDoorV35
namespace Go.Proofs.YteoijmejhdocdaaGreatDoor.Mx
open Go.ChangeShapes Go.WideShapes Go.ChangeAt Go.RowKit
set_option linter.unusedVariables false
open Go.Lib (hid)
open Go.Proofs.Tryz
set_option maxRecDepth 20000
set_option maxHeartbeats 64000000
open Value renaming int → O, slice → ψ, bool → φ, agg → σ
open IntKind renaming i64 → U
noncomputable def FF (x:VolN) (kind a b c:Int):VolN × Int × Int:=
 if kind = 1 then ((Ca x a (-1)).1,(Ca x a (-1)).2.2,(Ca x a (-1)).2.1) else
 if kind = 2 then ((Dx x a b).1,(Dx x a b).2.2,0) else
 if kind = 3 then ((AM x a).1,(AM x a).2,0) else
 if kind = 4 then ((DR x a).1,(DR x a).2,0) else
 if kind = 5 then ((Ah x 3).1,(Ah x 3).2,0) else
 if kind = 6 then Gq x a else
 if kind = 7 then Eg x a b c else
 if kind = 8 then Eu x a b else ((Bw x a).1,(Bw x a).2,0)
theorem Jt {x:VolN} (h:x.Inv) (kind a b c:Int):(FF x kind a b c).1.Inv:=by
 unfold FF
 split
 ·exact IJ h _ _
 ·split
  ·exact MN h _ _
  ·split
   ·exact FG h _
   ·split
    ·exact NN h _
    ·split
     ·exact Du h _
     ·split
      ·exact OY h _
      ·split
       ·exact GC h _ _ _
       ·split
        ·exact Mi h _ _
        ·exact IW h _
theorem Ck:(∀ (x:VolN) (v:Value) (w:World) (h:x.Inv) (hv:VolR w w.1.size x v) (a b0 c0:Int) (ha:I64 a),Calls prog 100 #[v,σ #[O U 1,O U a,O U b0,O U c0]] w (BN w ((Ca x a (-1)).1,(Ca x a (-1)).2.2,(Ca x a (-1)).2.1))) /\
 (∀ (x:VolN) (v:Value) (w:World) (h:x.Inv) (hv:VolR w w.1.size x v) (a b0 c0:Int) (ha:I64 a),Calls prog 100 #[v,σ #[O U 2,O U a,O U b0,O U c0]] w (BN w ((Dx x a b0).1,(Dx x a b0).2.2,0))) /\
 (∀ (x:VolN) (v:Value) (w:World) (h:x.Inv) (hv:VolR w w.1.size x v) (a b0 c0:Int),Calls prog 100 #[v,σ #[O U 3,O U a,O U b0,O U c0]] w (BN w ((AM x a).1,(AM x a).2,0))) /\
 (∀ (x:VolN) (v:Value) (w:World) (h:x.Inv) (hv:VolR w w.1.size x v) (a b0 c0:Int) (hr0:0 <= a) (hr:a < x.counts.length),Calls prog 100 #[v,σ #[O U 4,O U a,O U b0,O U c0]] w (BN w ((DR x a).1,(DR x a).2,0))) /\
 (∀ (x:VolN) (v:Value) (w:World) (h:x.Inv) (hv:VolR w w.1.size x v) (a b0 c0:Int),Calls prog 100 #[v,σ #[O U 5,O U a,O U b0,O U c0]] w (BN w ((Ah x 3).1,(Ah x 3).2,0))) /\
 (∀ (x:VolN) (v:Value) (w:World) (h:x.Inv) (hv:VolR w w.1.size x v) (a b0 c0:Int),Calls prog 100 #[v,σ #[O U 6,O U a,O U b0,O U c0]] w (BN w (Gq x a))) /\
 (∀ (x:VolN) (v:Value) (w:World) (h:x.Inv) (hv:VolR w w.1.size x v) (a b0 c0:Int),Calls prog 100 #[v,σ #[O U 7,O U a,O U b0,O U c0]] w (BN w (Eg x a b0 c0))) /\
 (∀ (x:VolN) (v:Value) (w:World) (h:x.Inv) (hv:VolR w w.1.size x v) (a b0 c0:Int),Calls prog 100 #[v,σ #[O U 8,O U a,O U b0,O U c0]] w (BN w (Eu x a b0))) /\
 (∀ (x:VolN) (v:Value) (w:World) (h:x.Inv) (hv:VolR w w.1.size x v) (a b0 c0:Int),Calls prog 100 #[v,σ #[O U 9,O U a,O U b0,O U c0]] w (BN w ((Bw x a).1,(Bw x a).2,0))):=by
 refine ⟨fun x v w h hv a b0 c0 ha=>(fun (z_1:True)=>?_) trivial,fun x v w h hv a b0 c0 ha=>(fun (z_2:True)=>?_) trivial,fun x v w h hv a b0 c0=>(fun (z_3:True)=>?_) trivial,fun x v w h hv a b0 c0 hr0 hr=>(fun (z_4:True)=>?_) trivial,fun x v w h hv a b0 c0=>(fun (z_5:True)=>?_) trivial,fun x v w h hv a b0 c0=>(fun (z_6:True)=>?_) trivial,fun x v w h hv a b0 c0=>(fun (z_7:True)=>?_) trivial,fun x v w h hv a b0 c0=>(fun (z_8:True)=>?_) trivial,fun x v w h hv a b0 c0=>(fun (z_9:True)=>?_) trivial⟩
 all_goals
  first
   | guard_hyp z_1
     have S0:=fun (u:World) (hb:Below w.1.size w u)=>Pu x v u h (hv.grow hb) a (-1) ha
   | guard_hyp z_2
     have S0:=fun (u:World) (hb:Below w.1.size w u)=>Ps x v u h (hv.grow hb) a b0 ha
   | guard_hyp z_3
     have S0:=fun (u:World) (hb:Below w.1.size w u)=>Re x v u h (hv.grow hb) a
   | guard_hyp z_4
     have S0:=fun (u:World) (hb:Below w.1.size w u)=>PI x v u h (hv.grow hb) a hr0 hr
   | guard_hyp z_5
     have S0:=fun (u:World) (hb:Below w.1.size w u)=>Hk x v u h (hv.grow hb) 3
   | guard_hyp z_6
     have S0:=fun (u:World) (hb:Below w.1.size w u)=>QF x v u h (hv.grow hb) a
   | guard_hyp z_7
     have S0:=fun (u:World) (hb:Below w.1.size w u)=>Qz x v u h (hv.grow hb) a b0 c0
   | guard_hyp z_8
     have S0:=fun (u:World) (hb:Below w.1.size w u)=>OJ x v u h (hv.grow hb) a b0
   | have S0:=fun (u:World) (hb:Below w.1.size w u)=>Le x v u h (hv.grow hb) a
  obtain ⟨A,cap,B,tc,C,cc,b,off,sc,rfl,hA,hB,hC,hbb,h0,h1,hcap⟩:=hv
  first
   | guard_hyp z_1
     have K0:=hid (show Kept w [(w.1.size + 1 + 1 + 1 + 1 + 1,52,#[O U 0,O U 0]),(w.1.size + 1 + 1 + 1 + 1,31,#[O U x.key,ψ A x.counts.length cap,ψ B x.trusts.length tc,ψ C x.cells.length cc,ψ (some ⟨b,off,none⟩) 2 sc,O U x.count]),(w.1.size + 1 + 1 + 1,52,#[O U 0,O U 0]),(w.1.size + 1 + 1,31,#[O U 0,ψ none 0 0,ψ none 0 0,ψ none 0 0,ψ none 0 0,O U 0]),(w.1.size + 1,56,#[O U 1,O U a,O U b0,O U c0]),(w.1.size,31,#[O U x.key,ψ A x.counts.length cap,ψ B x.trusts.length tc,ψ C x.cells.length cc,ψ (some ⟨b,off,none⟩) 2 sc,O U x.count])] _ from (((((((Kept.refl w).put1 _ _ #[O U x.key,ψ A x.counts.length cap,ψ B x.trusts.length tc,ψ C x.cells.length cc,ψ (some ⟨b,off,none⟩) 2 sc,O U x.count] rfl).put1 _ _ #[O U 1,O U a,O U b0,O U c0] (by simp)).put1 _ _ #[O U 0,ψ none 0 0,ψ none 0 0,ψ none 0 0,ψ none 0 0,O U 0] (by simp)).put1 _ _ #[O U 0,O U 0] (by simp)).put1 _ _ #[O U x.key,ψ A x.counts.length cap,ψ B x.trusts.length tc,ψ C x.cells.length cc,ψ (some ⟨b,off,none⟩) 2 sc,O U x.count] (by simp)).put1 _ _ #[O U 0,O U 0] (by simp)))
     generalize Ca x a (-1) = Y at S0 |-
     obtain ⟨y,p,q⟩:=Y
     simp only [] at S0 |-
   | guard_hyp z_2
     have K0:=hid (show Kept w [(w.1.size + 1 + 1 + 1 + 1 + 1,52,#[O U 0,O U 0]),(w.1.size + 1 + 1 + 1 + 1,31,#[O U x.key,ψ A x.counts.length cap,ψ B x.trusts.length tc,ψ C x.cells.length cc,ψ (some ⟨b,off,none⟩) 2 sc,O U x.count]),(w.1.size + 1 + 1 + 1,52,#[O U 0,O U 0]),(w.1.size + 1 + 1,31,#[O U 0,ψ none 0 0,ψ none 0 0,ψ none 0 0,ψ none 0 0,O U 0]),(w.1.size + 1,56,#[O U 2,O U a,O U b0,O U c0]),(w.1.size,31,#[O U x.key,ψ A x.counts.length cap,ψ B x.trusts.length tc,ψ C x.cells.length cc,ψ (some ⟨b,off,none⟩) 2 sc,O U x.count])] _ from (((((((Kept.refl w).put1 _ _ #[O U x.key,ψ A x.counts.length cap,ψ B x.trusts.length tc,ψ C x.cells.length cc,ψ (some ⟨b,off,none⟩) 2 sc,O U x.count] rfl).put1 _ _ #[O U 2,O U a,O U b0,O U c0] (by simp)).put1 _ _ #[O U 0,ψ none 0 0,ψ none 0 0,ψ none 0 0,ψ none 0 0,O U 0] (by simp)).put1 _ _ #[O U 0,O U 0] (by simp)).put1 _ _ #[O U x.key,ψ A x.counts.length cap,ψ B x.trusts.length tc,ψ C x.cells.length cc,ψ (some ⟨b,off,none⟩) 2 sc,O U x.count] (by simp)).put1 _ _ #[O U 0,O U 0] (by simp)))
     generalize Dx x a b0 = Y at S0 |-
     obtain ⟨y,p,q⟩:=Y
     simp only [] at S0 |-
   | guard_hyp z_3
     have K0:=hid (show Kept w [(w.1.size + 1 + 1 + 1 + 1 + 1,52,#[O U 0,O U 0]),(w.1.size + 1 + 1 + 1 + 1,31,#[O U x.key,ψ A x.counts.length cap,ψ B x.trusts.length tc,ψ C x.cells.length cc,ψ (some ⟨b,off,none⟩) 2 sc,O U x.count]),(w.1.size + 1 + 1 + 1,52,#[O U 0,O U 0]),(w.1.size + 1 + 1,31,#[O U 0,ψ none 0 0,ψ none 0 0,ψ none 0 0,ψ none 0 0,O U 0]),(w.1.size + 1,56,#[O U 3,O U a,O U b0,O U c0]),(w.1.size,31,#[O U x.key,ψ A x.counts.length cap,ψ B x.trusts.length tc,ψ C x.cells.length cc,ψ (some ⟨b,off,none⟩) 2 sc,O U x.count])] _ from (((((((Kept.refl w).put1 _ _ #[O U x.key,ψ A x.counts.length cap,ψ B x.trusts.length tc,ψ C x.cells.length cc,ψ (some ⟨b,off,none⟩) 2 sc,O U x.count] rfl).put1 _ _ #[O U 3,O U a,O U b0,O U c0] (by simp)).put1 _ _ #[O U 0,ψ none 0 0,ψ none 0 0,ψ none 0 0,ψ none 0 0,O U 0] (by simp)).put1 _ _ #[O U 0,O U 0] (by simp)).put1 _ _ #[O U x.key,ψ A x.counts.length cap,ψ B x.trusts.length tc,ψ C x.cells.length cc,ψ (some ⟨b,off,none⟩) 2 sc,O U x.count] (by simp)).put1 _ _ #[O U 0,O U 0] (by simp)))
     generalize AM x a = Y at S0 |-
     obtain ⟨y,p⟩:=Y
     simp only [] at S0 |-
   | guard_hyp z_4
     have K0:=hid (show Kept w [(w.1.size + 1 + 1 + 1 + 1 + 1,52,#[O U 0,O U 0]),(w.1.size + 1 + 1 + 1 + 1,31,#[O U x.key,ψ A x.counts.length cap,ψ B x.trusts.length tc,ψ C x.cells.length cc,ψ (some ⟨b,off,none⟩) 2 sc,O U x.count]),(w.1.size + 1 + 1 + 1,52,#[O U 0,O U 0]),(w.1.size + 1 + 1,31,#[O U 0,ψ none 0 0,ψ none 0 0,ψ none 0 0,ψ none 0 0,O U 0]),(w.1.size + 1,56,#[O U 4,O U a,O U b0,O U c0]),(w.1.size,31,#[O U x.key,ψ A x.counts.length cap,ψ B x.trusts.length tc,ψ C x.cells.length cc,ψ (some ⟨b,off,none⟩) 2 sc,O U x.count])] _ from (((((((Kept.refl w).put1 _ _ #[O U x.key,ψ A x.counts.length cap,ψ B x.trusts.length tc,ψ C x.cells.length cc,ψ (some ⟨b,off,none⟩) 2 sc,O U x.count] rfl).put1 _ _ #[O U 4,O U a,O U b0,O U c0] (by simp)).put1 _ _ #[O U 0,ψ none 0 0,ψ none 0 0,ψ none 0 0,ψ none 0 0,O U 0] (by simp)).put1 _ _ #[O U 0,O U 0] (by simp)).put1 _ _ #[O U x.key,ψ A x.counts.length cap,ψ B x.trusts.length tc,ψ C x.cells.length cc,ψ (some ⟨b,off,none⟩) 2 sc,O U x.count] (by simp)).put1 _ _ #[O U 0,O U 0] (by simp)))
     generalize DR x a = Y at S0 |-
     obtain ⟨y,p⟩:=Y
     simp only [] at S0 |-
   | guard_hyp z_5
     have K0:=hid (show Kept w [(w.1.size + 1 + 1 + 1 + 1 + 1,52,#[O U 0,O U 0]),(w.1.size + 1 + 1 + 1 + 1,31,#[O U x.key,ψ A x.counts.length cap,ψ B x.trusts.length tc,ψ C x.cells.length cc,ψ (some ⟨b,off,none⟩) 2 sc,O U x.count]),(w.1.size + 1 + 1 + 1,52,#[O U 0,O U 0]),(w.1.size + 1 + 1,31,#[O U 0,ψ none 0 0,ψ none 0 0,ψ none 0 0,ψ none 0 0,O U 0]),(w.1.size + 1,56,#[O U 5,O U a,O U b0,O U c0]),(w.1.size,31,#[O U x.key,ψ A x.counts.length cap,ψ B x.trusts.length tc,ψ C x.cells.length cc,ψ (some ⟨b,off,none⟩) 2 sc,O U x.count])] _ from (((((((Kept.refl w).put1 _ _ #[O U x.key,ψ A x.counts.length cap,ψ B x.trusts.length tc,ψ C x.cells.length cc,ψ (some ⟨b,off,none⟩) 2 sc,O U x.count] rfl).put1 _ _ #[O U 5,O U a,O U b0,O U c0] (by simp)).put1 _ _ #[O U 0,ψ none 0 0,ψ none 0 0,ψ none 0 0,ψ none 0 0,O U 0] (by simp)).put1 _ _ #[O U 0,O U 0] (by simp)).put1 _ _ #[O U x.key,ψ A x.counts.length cap,ψ B x.trusts.length tc,ψ C x.cells.length cc,ψ (some ⟨b,off,none⟩) 2 sc,O U x.count] (by simp)).put1 _ _ #[O U 0,O U 0] (by simp)))
     generalize Ah x 3 = Y at S0 |-
     obtain ⟨y,p⟩:=Y
     simp only [] at S0 |-
   | guard_hyp z_6
     have K0:=hid (show Kept w [(w.1.size + 1 + 1 + 1 + 1 + 1,52,#[O U 0,O U 0]),(w.1.size + 1 + 1 + 1 + 1,31,#[O U x.key,ψ A x.counts.length cap,ψ B x.trusts.length tc,ψ C x.cells.length cc,ψ (some ⟨b,off,none⟩) 2 sc,O U x.count]),(w.1.size + 1 + 1 + 1,52,#[O U 0,O U 0]),(w.1.size + 1 + 1,31,#[O U 0,ψ none 0 0,ψ none 0 0,ψ none 0 0,ψ none 0 0,O U 0]),(w.1.size + 1,56,#[O U 6,O U a,O U b0,O U c0]),(w.1.size,31,#[O U x.key,ψ A x.counts.length cap,ψ B x.trusts.length tc,ψ C x.cells.length cc,ψ (some ⟨b,off,none⟩) 2 sc,O U x.count])] _ from (((((((Kept.refl w).put1 _ _ #[O U x.key,ψ A x.counts.length cap,ψ B x.trusts.length tc,ψ C x.cells.length cc,ψ (some ⟨b,off,none⟩) 2 sc,O U x.count] rfl).put1 _ _ #[O U 6,O U a,O U b0,O U c0] (by simp)).put1 _ _ #[O U 0,ψ none 0 0,ψ none 0 0,ψ none 0 0,ψ none 0 0,O U 0] (by simp)).put1 _ _ #[O U 0,O U 0] (by simp)).put1 _ _ #[O U x.key,ψ A x.counts.length cap,ψ B x.trusts.length tc,ψ C x.cells.length cc,ψ (some ⟨b,off,none⟩) 2 sc,O U x.count] (by simp)).put1 _ _ #[O U 0,O U 0] (by simp)))
     generalize Gq x a = Y at S0 |-
     obtain ⟨y,p,q⟩:=Y
   | guard_hyp z_7
     have K0:=hid (show Kept w [(w.1.size + 1 + 1 + 1 + 1 + 1,52,#[O U 0,O U 0]),(w.1.size + 1 + 1 + 1 + 1,31,#[O U x.key,ψ A x.counts.length cap,ψ B x.trusts.length tc,ψ C x.cells.length cc,ψ (some ⟨b,off,none⟩) 2 sc,O U x.count]),(w.1.size + 1 + 1 + 1,52,#[O U 0,O U 0]),(w.1.size + 1 + 1,31,#[O U 0,ψ none 0 0,ψ none 0 0,ψ none 0 0,ψ none 0 0,O U 0]),(w.1.size + 1,56,#[O U 7,O U a,O U b0,O U c0]),(w.1.size,31,#[O U x.key,ψ A x.counts.length cap,ψ B x.trusts.length tc,ψ C x.cells.length cc,ψ (some ⟨b,off,none⟩) 2 sc,O U x.count])] _ from (((((((Kept.refl w).put1 _ _ #[O U x.key,ψ A x.counts.length cap,ψ B x.trusts.length tc,ψ C x.cells.length cc,ψ (some ⟨b,off,none⟩) 2 sc,O U x.count] rfl).put1 _ _ #[O U 7,O U a,O U b0,O U c0] (by simp)).put1 _ _ #[O U 0,ψ none 0 0,ψ none 0 0,ψ none 0 0,ψ none 0 0,O U 0] (by simp)).put1 _ _ #[O U 0,O U 0] (by simp)).put1 _ _ #[O U x.key,ψ A x.counts.length cap,ψ B x.trusts.length tc,ψ C x.cells.length cc,ψ (some ⟨b,off,none⟩) 2 sc,O U x.count] (by simp)).put1 _ _ #[O U 0,O U 0] (by simp)))
     generalize Eg x a b0 c0 = Y at S0 |-
     obtain ⟨y,p,q⟩:=Y
   | guard_hyp z_8
     have K0:=hid (show Kept w [(w.1.size + 1 + 1 + 1 + 1 + 1,52,#[O U 0,O U 0]),(w.1.size + 1 + 1 + 1 + 1,31,#[O U x.key,ψ A x.counts.length cap,ψ B x.trusts.length tc,ψ C x.cells.length cc,ψ (some ⟨b,off,none⟩) 2 sc,O U x.count]),(w.1.size + 1 + 1 + 1,52,#[O U 0,O U 0]),(w.1.size + 1 + 1,31,#[O U 0,ψ none 0 0,ψ none 0 0,ψ none 0 0,ψ none 0 0,O U 0]),(w.1.size + 1,56,#[O U 8,O U a,O U b0,O U c0]),(w.1.size,31,#[O U x.key,ψ A x.counts.length cap,ψ B x.trusts.length tc,ψ C x.cells.length cc,ψ (some ⟨b,off,none⟩) 2 sc,O U x.count])] _ from (((((((Kept.refl w).put1 _ _ #[O U x.key,ψ A x.counts.length cap,ψ B x.trusts.length tc,ψ C x.cells.length cc,ψ (some ⟨b,off,none⟩) 2 sc,O U x.count] rfl).put1 _ _ #[O U 8,O U a,O U b0,O U c0] (by simp)).put1 _ _ #[O U 0,ψ none 0 0,ψ none 0 0,ψ none 0 0,ψ none 0 0,O U 0] (by simp)).put1 _ _ #[O U 0,O U 0] (by simp)).put1 _ _ #[O U x.key,ψ A x.counts.length cap,ψ B x.trusts.length tc,ψ C x.cells.length cc,ψ (some ⟨b,off,none⟩) 2 sc,O U x.count] (by simp)).put1 _ _ #[O U 0,O U 0] (by simp)))
     generalize Eu x a b0 = Y at S0 |-
     obtain ⟨y,p,q⟩:=Y
   | have K0:=hid (show Kept w [(w.1.size + 1 + 1 + 1 + 1 + 1,52,#[O U 0,O U 0]),(w.1.size + 1 + 1 + 1 + 1,31,#[O U x.key,ψ A x.counts.length cap,ψ B x.trusts.length tc,ψ C x.cells.length cc,ψ (some ⟨b,off,none⟩) 2 sc,O U x.count]),(w.1.size + 1 + 1 + 1,52,#[O U 0,O U 0]),(w.1.size + 1 + 1,31,#[O U 0,ψ none 0 0,ψ none 0 0,ψ none 0 0,ψ none 0 0,O U 0]),(w.1.size + 1,56,#[O U 9,O U a,O U b0,O U c0]),(w.1.size,31,#[O U x.key,ψ A x.counts.length cap,ψ B x.trusts.length tc,ψ C x.cells.length cc,ψ (some ⟨b,off,none⟩) 2 sc,O U x.count])] _ from (((((((Kept.refl w).put1 _ _ #[O U x.key,ψ A x.counts.length cap,ψ B x.trusts.length tc,ψ C x.cells.length cc,ψ (some ⟨b,off,none⟩) 2 sc,O U x.count] rfl).put1 _ _ #[O U 9,O U a,O U b0,O U c0] (by simp)).put1 _ _ #[O U 0,ψ none 0 0,ψ none 0 0,ψ none 0 0,ψ none 0 0,O U 0] (by simp)).put1 _ _ #[O U 0,O U 0] (by simp)).put1 _ _ #[O U x.key,ψ A x.counts.length cap,ψ B x.trusts.length tc,ψ C x.cells.length cc,ψ (some ⟨b,off,none⟩) 2 sc,O U x.count] (by simp)).put1 _ _ #[O U 0,O U 0] (by simp)))
     generalize Bw x a = Y at S0 |-
     obtain ⟨y,p⟩:=Y
     simp only [] at S0 |-
  have SO:=hid S0
  first
   | guard_hyp z_4
     clear hA hB hC h0 h1 S0 h hr0 hr
   | first | guard_hyp z_1 | guard_hyp z_2
     clear hA hB hC h0 h1 S0 h ha
   | clear hA hB hC h0 h1 S0 h
  go_enter func100,ntmps100
  go_upto_region 3 with fail
  have hk0:=K0.out
  clear K0
  have lo0:w.1.size + 1 + 1 + 1 + 1 + 1 < _:=hk0.lt (x:=(w.1.size + 1 + 1 + 1 + 1 + 1,52,#[O U 0,O U 0])) (by simp)
  have lo1:w.1.size + 1 + 1 + 1 + 1 < _:=hk0.lt (x:=(w.1.size + 1 + 1 + 1 + 1,31,#[O U x.key,ψ A x.counts.length cap,ψ B x.trusts.length tc,ψ C x.cells.length cc,ψ (some ⟨b,off,none⟩) 2 sc,O U x.count])) (by simp)
  have lo2:w.1.size + 1 + 1 + 1 < _:=hk0.lt (x:=(w.1.size + 1 + 1 + 1,52,#[O U 0,O U 0])) (by simp)
  have lo3:w.1.size + 1 + 1 < _:=hk0.lt (x:=(w.1.size + 1 + 1,31,#[O U 0,ψ none 0 0,ψ none 0 0,ψ none 0 0,ψ none 0 0,O U 0])) (by simp)
  first
   | guard_hyp z_1
     have lo4:w.1.size + 1 < _:=hk0.lt (x:=(w.1.size + 1,56,#[O U 1,O U a,O U b0,O U c0])) (by simp)
   | guard_hyp z_2
     have lo4:w.1.size + 1 < _:=hk0.lt (x:=(w.1.size + 1,56,#[O U 2,O U a,O U b0,O U c0])) (by simp)
   | guard_hyp z_3
     have lo4:w.1.size + 1 < _:=hk0.lt (x:=(w.1.size + 1,56,#[O U 3,O U a,O U b0,O U c0])) (by simp)
   | guard_hyp z_4
     have lo4:w.1.size + 1 < _:=hk0.lt (x:=(w.1.size + 1,56,#[O U 4,O U a,O U b0,O U c0])) (by simp)
   | guard_hyp z_5
     have lo4:w.1.size + 1 < _:=hk0.lt (x:=(w.1.size + 1,56,#[O U 5,O U a,O U b0,O U c0])) (by simp)
   | guard_hyp z_6
     have lo4:w.1.size + 1 < _:=hk0.lt (x:=(w.1.size + 1,56,#[O U 6,O U a,O U b0,O U c0])) (by simp)
   | guard_hyp z_7
     have lo4:w.1.size + 1 < _:=hk0.lt (x:=(w.1.size + 1,56,#[O U 7,O U a,O U b0,O U c0])) (by simp)
   | guard_hyp z_8
     have lo4:w.1.size + 1 < _:=hk0.lt (x:=(w.1.size + 1,56,#[O U 8,O U a,O U b0,O U c0])) (by simp)
   | have lo4:w.1.size + 1 < _:=hk0.lt (x:=(w.1.size + 1,56,#[O U 9,O U a,O U b0,O U c0])) (by simp)
  have lo5:w.1.size < _:=hk0.lt (x:=(w.1.size,31,#[O U x.key,ψ A x.counts.length cap,ψ B x.trusts.length tc,ψ C x.cells.length cc,ψ (some ⟨b,off,none⟩) 2 sc,O U x.count])) (by simp)
  generalize World.alloc _ _ = w6 at hk0 lo0 lo1 lo2 lo3 lo4 lo5 |-
  obtain ⟨X0,Y0,X1,Y1,X2,Y2,X3,Y3,X4,Y4,X5,Y5,-⟩:=hk0.rd
  have KK:=hid hk0
  clear hk0
  go_wp2_with fail
  refine (SO.out _ KK.out.1).mono ?_;rintro e u1 ⟨cs,rfl,hv,hb1⟩
  obtain ⟨A',c',B',d',C',e',b',o',s',e1,-⟩:=hv.reads
  injection e1 with e1;subst e1
  have hk1:=KK.out.below hb1
  have lz:=hb1.size
  have hwb:w.1.size <= w6.1.size:=KK.out.1.size
  clear SO
  clear X0 Y0 X1 Y1 X2 Y2 X3 Y3 X4 Y4 X5 Y5
  first
   | guard_hyp z_1
     have hk2:=hk1.put1 u1.1.size 31 #[O U y.key,ψ A' y.counts.length c',ψ B' y.trusts.length d',ψ C' y.cells.length e',ψ (some ⟨b',o',none⟩) 2 s',O U y.count] rfl
     have hv2:=hv.below ((Below.refl _ _).alloc (lr _) (.cells #[O U y.key,ψ A' y.counts.length c',ψ B' y.trusts.length d',ψ C' y.cells.length e',ψ (some ⟨b',o',none⟩) 2 s',O U y.count] 31))
     clear hb1 hk1 hv KK
     go_upto_region 6 with fail
     generalize World.alloc u1 _ = u2 at hk2 hv2 |-
     obtain ⟨X0,Y0,X1,Y1,X2,Y2,X3,Y3,X4,Y4,X5,Y5,X6,Y6,-⟩:=hk2.rd
     have HV:=hid hv2
     have KK:=hid hk2
     clear hv2 hk2
   | guard_hyp z_2
     have hk2:=hk1.put1 u1.1.size 31 #[O U y.key,ψ A' y.counts.length c',ψ B' y.trusts.length d',ψ C' y.cells.length e',ψ (some ⟨b',o',none⟩) 2 s',O U y.count] rfl
     have hv2:=hv.below ((Below.refl _ _).alloc (lr _) (.cells #[O U y.key,ψ A' y.counts.length c',ψ B' y.trusts.length d',ψ C' y.cells.length e',ψ (some ⟨b',o',none⟩) 2 s',O U y.count] 31))
     clear hb1 hk1 hv KK
     go_upto_region 9 with fail
     generalize World.alloc u1 _ = u2 at hk2 hv2 |-
     obtain ⟨X0,Y0,X1,Y1,X2,Y2,X3,Y3,X4,Y4,X5,Y5,X6,Y6,-⟩:=hk2.rd
     have HV:=hid hv2
     have KK:=hid hk2
     clear hv2 hk2
   | guard_hyp z_3
     obtain ⟨X0,Y0,X1,Y1,X2,Y2,X3,Y3,X4,Y4,X5,Y5,-⟩:=hk1.rd
     have HV:=hid hv
     have KK2:=hid hk1
     clear hv hk1 hb1 KK
     go_upto_region 24 with fail
     have h6:=Ed (x0:=O U y.key) (x1:=ψ A' y.counts.length c') (x2:=ψ B' y.trusts.length d') (x3:=ψ C' y.cells.length e') (x4:=ψ (some ⟨b',o',none⟩) 2 s') (x5:=O U y.count) (KK2.out.at_ (p:=w.1.size + 1 + 1 + 1 + 1) (t:=31) (cs:=#[O U x.key,ψ A x.counts.length cap,ψ B x.trusts.length tc,ψ C x.cells.length cc,ψ (some ⟨b,off,none⟩) 2 sc,O U x.count]) (by simp))
     have hk3:Kept w [(w.1.size + 1 + 1 + 1 + 1 + 1,52,#[O U 0,O U 0]),(w.1.size + 1 + 1 + 1 + 1,31,#[O U y.key,ψ A' y.counts.length c',ψ B' y.trusts.length d',ψ C' y.cells.length e',ψ (some ⟨b',o',none⟩) 2 s',O U y.count]),(w.1.size + 1 + 1 + 1,52,#[O U 0,O U 0]),(w.1.size + 1 + 1,31,#[O U 0,ψ none 0 0,ψ none 0 0,ψ none 0 0,ψ none 0 0,O U 0]),(w.1.size + 1,56,#[O U 3,O U a,O U b0,O U c0]),(w.1.size,31,#[O U x.key,ψ A x.counts.length cap,ψ B x.trusts.length tc,ψ C x.cells.length cc,ψ (some ⟨b,off,none⟩) 2 sc,O U x.count])] _:=KK2.out.put (k:=1) rfl (by unfold Apart;simp <;> omega) h6.2 h6.1
     have hg7:=Ai (Aj ((((((u1.setCell ⟨w.1.size + 1 + 1 + 1 + 1,0,none⟩ (O U y.key)).setCell ⟨w.1.size + 1 + 1 + 1 + 1,1,none⟩ (ψ A' y.counts.length c')).setCell ⟨w.1.size + 1 + 1 + 1 + 1,2,none⟩ (ψ B' y.trusts.length d')).setCell ⟨w.1.size + 1 + 1 + 1 + 1,3,none⟩ (ψ C' y.cells.length e')).setCell ⟨w.1.size + 1 + 1 + 1 + 1,4,none⟩ (ψ (some ⟨b',o',none⟩) 2 s')).setCell ⟨w.1.size + 1 + 1 + 1 + 1,5,none⟩ (O U y.count)) (some (w.1.size + 1 + 1 + 1 + 1 + 1))) 0 (O U p)
     have hk4:Kept w [(w.1.size + 1 + 1 + 1 + 1 + 1,52,#[O U p,O U 0]),(w.1.size + 1 + 1 + 1 + 1,31,#[O U y.key,ψ A' y.counts.length c',ψ B' y.trusts.length d',ψ C' y.cells.length e',ψ (some ⟨b',o',none⟩) 2 s',O U y.count]),(w.1.size + 1 + 1 + 1,52,#[O U 0,O U 0]),(w.1.size + 1 + 1,31,#[O U 0,ψ none 0 0,ψ none 0 0,ψ none 0 0,ψ none 0 0,O U 0]),(w.1.size + 1,56,#[O U 3,O U a,O U b0,O U c0]),(w.1.size,31,#[O U x.key,ψ A x.counts.length cap,ψ B x.trusts.length tc,ψ C x.cells.length cc,ψ (some ⟨b,off,none⟩) 2 sc,O U x.count])] _:=hk3.put (k:=0) rfl (by unfold Apart;simp <;> omega) hg7 ((hk3.at_ (p:=w.1.size + 1 + 1 + 1 + 1 + 1) (t:=52) (cs:=#[O U 0,O U 0]) (by simp)).set_ 0 _)
     have hv4:=(HV.out.out h6.2 lo1).out hg7 lo0
     clear h6 hk3 hg7 HV KK2
     clear X0 Y0 X1 Y1 X2 Y2 X3 Y3 X4 Y4 X5 Y5
     generalize World.setCell _ _ _ = u2 at hk4 hv4 |-
     obtain ⟨X0,Y0,X1,Y1,X2,Y2,X3,Y3,X4,Y4,X5,Y5,-⟩:=hk4.rd
     have HV:=hid hv4
     have KK:=hid hk4
     clear hv4 hk4
     go_region
   | guard_hyp z_4
     obtain ⟨X0,Y0,X1,Y1,X2,Y2,X3,Y3,X4,Y4,X5,Y5,-⟩:=hk1.rd
     have HV:=hid hv
     have KK2:=hid hk1
     clear hv hk1 hb1 KK
     go_upto_region 24 with fail
     have h6:=Ed (x0:=O U y.key) (x1:=ψ A' y.counts.length c') (x2:=ψ B' y.trusts.length d') (x3:=ψ C' y.cells.length e') (x4:=ψ (some ⟨b',o',none⟩) 2 s') (x5:=O U y.count) (KK2.out.at_ (p:=w.1.size + 1 + 1 + 1 + 1) (t:=31) (cs:=#[O U x.key,ψ A x.counts.length cap,ψ B x.trusts.length tc,ψ C x.cells.length cc,ψ (some ⟨b,off,none⟩) 2 sc,O U x.count]) (by simp))
     have hk3:Kept w [(w.1.size + 1 + 1 + 1 + 1 + 1,52,#[O U 0,O U 0]),(w.1.size + 1 + 1 + 1 + 1,31,#[O U y.key,ψ A' y.counts.length c',ψ B' y.trusts.length d',ψ C' y.cells.length e',ψ (some ⟨b',o',none⟩) 2 s',O U y.count]),(w.1.size + 1 + 1 + 1,52,#[O U 0,O U 0]),(w.1.size + 1 + 1,31,#[O U 0,ψ none 0 0,ψ none 0 0,ψ none 0 0,ψ none 0 0,O U 0]),(w.1.size + 1,56,#[O U 4,O U a,O U b0,O U c0]),(w.1.size,31,#[O U x.key,ψ A x.counts.length cap,ψ B x.trusts.length tc,ψ C x.cells.length cc,ψ (some ⟨b,off,none⟩) 2 sc,O U x.count])] _:=KK2.out.put (k:=1) rfl (by unfold Apart;simp <;> omega) h6.2 h6.1
     have hg7:=Ai (Aj ((((((u1.setCell ⟨w.1.size + 1 + 1 + 1 + 1,0,none⟩ (O U y.key)).setCell ⟨w.1.size + 1 + 1 + 1 + 1,1,none⟩ (ψ A' y.counts.length c')).setCell ⟨w.1.size + 1 + 1 + 1 + 1,2,none⟩ (ψ B' y.trusts.length d')).setCell ⟨w.1.size + 1 + 1 + 1 + 1,3,none⟩ (ψ C' y.cells.length e')).setCell ⟨w.1.size + 1 + 1 + 1 + 1,4,none⟩ (ψ (some ⟨b',o',none⟩) 2 s')).setCell ⟨w.1.size + 1 + 1 + 1 + 1,5,none⟩ (O U y.count)) (some (w.1.size + 1 + 1 + 1 + 1 + 1))) 0 (O U p)
     have hk4:Kept w [(w.1.size + 1 + 1 + 1 + 1 + 1,52,#[O U p,O U 0]),(w.1.size + 1 + 1 + 1 + 1,31,#[O U y.key,ψ A' y.counts.length c',ψ B' y.trusts.length d',ψ C' y.cells.length e',ψ (some ⟨b',o',none⟩) 2 s',O U y.count]),(w.1.size + 1 + 1 + 1,52,#[O U 0,O U 0]),(w.1.size + 1 + 1,31,#[O U 0,ψ none 0 0,ψ none 0 0,ψ none 0 0,ψ none 0 0,O U 0]),(w.1.size + 1,56,#[O U 4,O U a,O U b0,O U c0]),(w.1.size,31,#[O U x.key,ψ A x.counts.length cap,ψ B x.trusts.length tc,ψ C x.cells.length cc,ψ (some ⟨b,off,none⟩) 2 sc,O U x.count])] _:=hk3.put (k:=0) rfl (by unfold Apart;simp <;> omega) hg7 ((hk3.at_ (p:=w.1.size + 1 + 1 + 1 + 1 + 1) (t:=52) (cs:=#[O U 0,O U 0]) (by simp)).set_ 0 _)
     have hv4:=(HV.out.out h6.2 lo1).out hg7 lo0
     clear h6 hk3 hg7 HV KK2
     clear X0 Y0 X1 Y1 X2 Y2 X3 Y3 X4 Y4 X5 Y5
     generalize World.setCell _ _ _ = u2 at hk4 hv4 |-
     obtain ⟨X0,Y0,X1,Y1,X2,Y2,X3,Y3,X4,Y4,X5,Y5,-⟩:=hk4.rd
     have HV:=hid hv4
     have KK:=hid hk4
     clear hv4 hk4
     go_region
   | guard_hyp z_5
     obtain ⟨X0,Y0,X1,Y1,X2,Y2,X3,Y3,X4,Y4,X5,Y5,-⟩:=hk1.rd
     have HV:=hid hv
     have KK2:=hid hk1
     clear hv hk1 hb1 KK
     go_upto_region 24 with fail
     have h6:=Ed (x0:=O U y.key) (x1:=ψ A' y.counts.length c') (x2:=ψ B' y.trusts.length d') (x3:=ψ C' y.cells.length e') (x4:=ψ (some ⟨b',o',none⟩) 2 s') (x5:=O U y.count) (KK2.out.at_ (p:=w.1.size + 1 + 1 + 1 + 1) (t:=31) (cs:=#[O U x.key,ψ A x.counts.length cap,ψ B x.trusts.length tc,ψ C x.cells.length cc,ψ (some ⟨b,off,none⟩) 2 sc,O U x.count]) (by simp))
     have hk3:Kept w [(w.1.size + 1 + 1 + 1 + 1 + 1,52,#[O U 0,O U 0]),(w.1.size + 1 + 1 + 1 + 1,31,#[O U y.key,ψ A' y.counts.length c',ψ B' y.trusts.length d',ψ C' y.cells.length e',ψ (some ⟨b',o',none⟩) 2 s',O U y.count]),(w.1.size + 1 + 1 + 1,52,#[O U 0,O U 0]),(w.1.size + 1 + 1,31,#[O U 0,ψ none 0 0,ψ none 0 0,ψ none 0 0,ψ none 0 0,O U 0]),(w.1.size + 1,56,#[O U 5,O U a,O U b0,O U c0]),(w.1.size,31,#[O U x.key,ψ A x.counts.length cap,ψ B x.trusts.length tc,ψ C x.cells.length cc,ψ (some ⟨b,off,none⟩) 2 sc,O U x.count])] _:=KK2.out.put (k:=1) rfl (by unfold Apart;simp <;> omega) h6.2 h6.1
     have hg7:=Ai (Aj ((((((u1.setCell ⟨w.1.size + 1 + 1 + 1 + 1,0,none⟩ (O U y.key)).setCell ⟨w.1.size + 1 + 1 + 1 + 1,1,none⟩ (ψ A' y.counts.length c')).setCell ⟨w.1.size + 1 + 1 + 1 + 1,2,none⟩ (ψ B' y.trusts.length d')).setCell ⟨w.1.size + 1 + 1 + 1 + 1,3,none⟩ (ψ C' y.cells.length e')).setCell ⟨w.1.size + 1 + 1 + 1 + 1,4,none⟩ (ψ (some ⟨b',o',none⟩) 2 s')).setCell ⟨w.1.size + 1 + 1 + 1 + 1,5,none⟩ (O U y.count)) (some (w.1.size + 1 + 1 + 1 + 1 + 1))) 0 (O U p)
     have hk4:Kept w [(w.1.size + 1 + 1 + 1 + 1 + 1,52,#[O U p,O U 0]),(w.1.size + 1 + 1 + 1 + 1,31,#[O U y.key,ψ A' y.counts.length c',ψ B' y.trusts.length d',ψ C' y.cells.length e',ψ (some ⟨b',o',none⟩) 2 s',O U y.count]),(w.1.size + 1 + 1 + 1,52,#[O U 0,O U 0]),(w.1.size + 1 + 1,31,#[O U 0,ψ none 0 0,ψ none 0 0,ψ none 0 0,ψ none 0 0,O U 0]),(w.1.size + 1,56,#[O U 5,O U a,O U b0,O U c0]),(w.1.size,31,#[O U x.key,ψ A x.counts.length cap,ψ B x.trusts.length tc,ψ C x.cells.length cc,ψ (some ⟨b,off,none⟩) 2 sc,O U x.count])] _:=hk3.put (k:=0) rfl (by unfold Apart;simp <;> omega) hg7 ((hk3.at_ (p:=w.1.size + 1 + 1 + 1 + 1 + 1) (t:=52) (cs:=#[O U 0,O U 0]) (by simp)).set_ 0 _)
     have hv4:=(HV.out.out h6.2 lo1).out hg7 lo0
     clear h6 hk3 hg7 HV KK2
     clear X0 Y0 X1 Y1 X2 Y2 X3 Y3 X4 Y4 X5 Y5
     generalize World.setCell _ _ _ = u2 at hk4 hv4 |-
     obtain ⟨X0,Y0,X1,Y1,X2,Y2,X3,Y3,X4,Y4,X5,Y5,-⟩:=hk4.rd
     have HV:=hid hv4
     have KK:=hid hk4
     clear hv4 hk4
     go_region
   | guard_hyp z_9
     obtain ⟨X0,Y0,X1,Y1,X2,Y2,X3,Y3,X4,Y4,X5,Y5,-⟩:=hk1.rd
     have HV:=hid hv
     have KK2:=hid hk1
     clear hv hk1 hb1 KK
     go_upto_region 24 with fail
     have h6:=Ed (x0:=O U y.key) (x1:=ψ A' y.counts.length c') (x2:=ψ B' y.trusts.length d') (x3:=ψ C' y.cells.length e') (x4:=ψ (some ⟨b',o',none⟩) 2 s') (x5:=O U y.count) (KK2.out.at_ (p:=w.1.size + 1 + 1 + 1 + 1) (t:=31) (cs:=#[O U x.key,ψ A x.counts.length cap,ψ B x.trusts.length tc,ψ C x.cells.length cc,ψ (some ⟨b,off,none⟩) 2 sc,O U x.count]) (by simp))
     have hk3:Kept w [(w.1.size + 1 + 1 + 1 + 1 + 1,52,#[O U 0,O U 0]),(w.1.size + 1 + 1 + 1 + 1,31,#[O U y.key,ψ A' y.counts.length c',ψ B' y.trusts.length d',ψ C' y.cells.length e',ψ (some ⟨b',o',none⟩) 2 s',O U y.count]),(w.1.size + 1 + 1 + 1,52,#[O U 0,O U 0]),(w.1.size + 1 + 1,31,#[O U 0,ψ none 0 0,ψ none 0 0,ψ none 0 0,ψ none 0 0,O U 0]),(w.1.size + 1,56,#[O U 9,O U a,O U b0,O U c0]),(w.1.size,31,#[O U x.key,ψ A x.counts.length cap,ψ B x.trusts.length tc,ψ C x.cells.length cc,ψ (some ⟨b,off,none⟩) 2 sc,O U x.count])] _:=KK2.out.put (k:=1) rfl (by unfold Apart;simp <;> omega) h6.2 h6.1
     have hg7:=Ai (Aj ((((((u1.setCell ⟨w.1.size + 1 + 1 + 1 + 1,0,none⟩ (O U y.key)).setCell ⟨w.1.size + 1 + 1 + 1 + 1,1,none⟩ (ψ A' y.counts.length c')).setCell ⟨w.1.size + 1 + 1 + 1 + 1,2,none⟩ (ψ B' y.trusts.length d')).setCell ⟨w.1.size + 1 + 1 + 1 + 1,3,none⟩ (ψ C' y.cells.length e')).setCell ⟨w.1.size + 1 + 1 + 1 + 1,4,none⟩ (ψ (some ⟨b',o',none⟩) 2 s')).setCell ⟨w.1.size + 1 + 1 + 1 + 1,5,none⟩ (O U y.count)) (some (w.1.size + 1 + 1 + 1 + 1 + 1))) 0 (O U p)
     have hk4:Kept w [(w.1.size + 1 + 1 + 1 + 1 + 1,52,#[O U p,O U 0]),(w.1.size + 1 + 1 + 1 + 1,31,#[O U y.key,ψ A' y.counts.length c',ψ B' y.trusts.length d',ψ C' y.cells.length e',ψ (some ⟨b',o',none⟩) 2 s',O U y.count]),(w.1.size + 1 + 1 + 1,52,#[O U 0,O U 0]),(w.1.size + 1 + 1,31,#[O U 0,ψ none 0 0,ψ none 0 0,ψ none 0 0,ψ none 0 0,O U 0]),(w.1.size + 1,56,#[O U 9,O U a,O U b0,O U c0]),(w.1.size,31,#[O U x.key,ψ A x.counts.length cap,ψ B x.trusts.length tc,ψ C x.cells.length cc,ψ (some ⟨b,off,none⟩) 2 sc,O U x.count])] _:=hk3.put (k:=0) rfl (by unfold Apart;simp <;> omega) hg7 ((hk3.at_ (p:=w.1.size + 1 + 1 + 1 + 1 + 1) (t:=52) (cs:=#[O U 0,O U 0]) (by simp)).set_ 0 _)
     have hv4:=(HV.out.out h6.2 lo1).out hg7 lo0
     clear h6 hk3 hg7 HV KK2
     clear X0 Y0 X1 Y1 X2 Y2 X3 Y3 X4 Y4 X5 Y5
     generalize World.setCell _ _ _ = u2 at hk4 hv4 |-
     obtain ⟨X0,Y0,X1,Y1,X2,Y2,X3,Y3,X4,Y4,X5,Y5,-⟩:=hk4.rd
     have HV:=hid hv4
     have KK:=hid hk4
     clear hv4 hk4
     go_region
   | obtain ⟨X0,Y0,X1,Y1,X2,Y2,X3,Y3,X4,Y4,X5,Y5,-⟩:=hk1.rd
     have HV:=hid hv
     have KK2:=hid hk1
     clear hv hk1 hb1 KK
  go_wp2_with fail
  first
   | guard_hyp z_1
     obtain ⟨w9,e9,⟨d0,d1,d2,d3,d4,d5⟩,⟨f0,f1⟩,hb9,hv9⟩:=Eq (w:=w) (x0:=O U y.key) (x1:=ψ A' y.counts.length c') (x2:=ψ B' y.trusts.length d') (x3:=ψ C' y.cells.length e') (x4:=ψ (some ⟨b',o',none⟩) 2 s') (x5:=O U y.count) (a0:=O U q) (a1:=O U p) (KK.out.at_ (p:=w.1.size + 1 + 1) (t:=31) (cs:=#[O U 0,ψ none 0 0,ψ none 0 0,ψ none 0 0,ψ none 0 0,O U 0]) (by simp)) (KK.out.at_ (p:=w.1.size + 1 + 1 + 1) (t:=52) (cs:=#[O U 0,O U 0]) (by simp)) (by omega) KK.out.1 (by omega) (by omega)
   | guard_hyp z_2
     obtain ⟨w9,e9,⟨d0,d1,d2,d3,d4,d5⟩,⟨f0,f1⟩,hb9,hv9⟩:=Eq (w:=w) (x0:=O U y.key) (x1:=ψ A' y.counts.length c') (x2:=ψ B' y.trusts.length d') (x3:=ψ C' y.cells.length e') (x4:=ψ (some ⟨b',o',none⟩) 2 s') (x5:=O U y.count) (a0:=O U q) (a1:=O U 0) (KK.out.at_ (p:=w.1.size + 1 + 1) (t:=31) (cs:=#[O U 0,ψ none 0 0,ψ none 0 0,ψ none 0 0,ψ none 0 0,O U 0]) (by simp)) (KK.out.at_ (p:=w.1.size + 1 + 1 + 1) (t:=52) (cs:=#[O U 0,O U 0]) (by simp)) (by omega) KK.out.1 (by omega) (by omega)
   | first | guard_hyp z_6 | guard_hyp z_7 | guard_hyp z_8
     obtain ⟨w9,e9,⟨d0,d1,d2,d3,d4,d5⟩,⟨f0,f1⟩,hb9,hv9⟩:=Eq (w:=w) (x0:=O U y.key) (x1:=ψ A' y.counts.length c') (x2:=ψ B' y.trusts.length d') (x3:=ψ C' y.cells.length e') (x4:=ψ (some ⟨b',o',none⟩) 2 s') (x5:=O U y.count) (a0:=O U p) (a1:=O U q) (KK2.out.at_ (p:=w.1.size + 1 + 1) (t:=31) (cs:=#[O U 0,ψ none 0 0,ψ none 0 0,ψ none 0 0,ψ none 0 0,O U 0]) (by simp)) (KK2.out.at_ (p:=w.1.size + 1 + 1 + 1) (t:=52) (cs:=#[O U 0,O U 0]) (by simp)) (by omega) KK2.out.1 (by omega) (by omega)
   | obtain ⟨w9,e9,⟨d0,d1,d2,d3,d4,d5⟩,⟨f0,f1⟩,hb9,hv9⟩:=Eq (w:=w) (x0:=O U y.key) (x1:=ψ A' y.counts.length c') (x2:=ψ B' y.trusts.length d') (x3:=ψ C' y.cells.length e') (x4:=ψ (some ⟨b',o',none⟩) 2 s') (x5:=O U y.count) (a0:=O U p) (a1:=O U 0) (KK.out.at_ (p:=w.1.size + 1 + 1) (t:=31) (cs:=#[O U 0,ψ none 0 0,ψ none 0 0,ψ none 0 0,ψ none 0 0,O U 0]) (by simp)) (KK.out.at_ (p:=w.1.size + 1 + 1 + 1) (t:=52) (cs:=#[O U 0,O U 0]) (by simp)) (by omega) KK.out.1 (by omega) (by omega)
  rw [e9]
  first
   | guard_hyp z_1
     exact bodyPost_ret (v:=.tuple #[σ #[O U y.key,ψ A' y.counts.length c',ψ B' y.trusts.length d',ψ C' y.cells.length e',ψ (some ⟨b',o',none⟩) 2 s',O U y.count],σ #[O U q,O U p]]) (by simp [results,results100,go_sem,d0,d1,d2,d3,d4,d5,f0,f1]) rfl ⟨_,rfl,(hv9 _ _ _ (by omega) (by omega) HV.out).mono hwb,hb9⟩
   | guard_hyp z_2
     exact bodyPost_ret (v:=.tuple #[σ #[O U y.key,ψ A' y.counts.length c',ψ B' y.trusts.length d',ψ C' y.cells.length e',ψ (some ⟨b',o',none⟩) 2 s',O U y.count],σ #[O U q,O U 0]]) (by simp [results,results100,go_sem,d0,d1,d2,d3,d4,d5,f0,f1]) rfl ⟨_,rfl,(hv9 _ _ _ (by omega) (by omega) HV.out).mono hwb,hb9⟩
   | first | guard_hyp z_6 | guard_hyp z_7 | guard_hyp z_8
     exact bodyPost_ret (v:=.tuple #[σ #[O U y.key,ψ A' y.counts.length c',ψ B' y.trusts.length d',ψ C' y.cells.length e',ψ (some ⟨b',o',none⟩) 2 s',O U y.count],σ #[O U p,O U q]]) (by simp [results,results100,go_sem,d0,d1,d2,d3,d4,d5,f0,f1]) rfl ⟨_,rfl,(hv9 _ _ _ (by omega) (by omega) HV.out).mono hwb,hb9⟩
   | exact bodyPost_ret (v:=.tuple #[σ #[O U y.key,ψ A' y.counts.length c',ψ B' y.trusts.length d',ψ C' y.cells.length e',ψ (some ⟨b',o',none⟩) 2 s',O U y.count],σ #[O U p,O U 0]]) (by simp [results,results100,go_sem,d0,d1,d2,d3,d4,d5,f0,f1]) rfl ⟨_,rfl,show VolO w9.drew _ _ _ from (hv9 _ _ _ (by omega) (by omega) HV.out).mono hwb,hb9.drew⟩
theorem Sa:type_of% Ck.1:=Ck.1
theorem Sl:type_of% Ck.2.1:=Ck.2.1
theorem RQ:type_of% Ck.2.2.1:=Ck.2.2.1
theorem Sq:type_of% Ck.2.2.2.1:=Ck.2.2.2.1
theorem Sp:type_of% Ck.2.2.2.2.1:=Ck.2.2.2.2.1
theorem RO:type_of% Ck.2.2.2.2.2.1:=Ck.2.2.2.2.2.1
theorem RK:type_of% Ck.2.2.2.2.2.2.1:=Ck.2.2.2.2.2.2.1
theorem Sf:type_of% Ck.2.2.2.2.2.2.2.1:=Ck.2.2.2.2.2.2.2.1
theorem RL:type_of% Ck.2.2.2.2.2.2.2.2:=Ck.2.2.2.2.2.2.2.2
theorem Qk (x:VolN) (v:Value) (w:World) (h:x.Inv) (hv:VolR w w.1.size x v) (kind a b0 c0:Int) (hk0:1 <= kind) (hk1:kind <= 9) (ha:I64 a) (hr:kind = 4 -> 0 <= a /\ a < x.counts.length):Calls prog 100 #[v,σ #[O U kind,O U a,O U b0,O U c0]] w (BN w (FF x kind a b0 c0)):=by
 have hk:kind = 1 \/ kind = 2 \/ kind = 3 \/ kind = 4 \/ kind = 5 \/ kind = 6 \/ kind = 7 \/ kind = 8 \/ kind = 9:=by omega
 rcases hk with rfl | rfl | rfl | rfl | rfl | rfl | rfl | rfl | rfl
 ·exact Sa x v w h hv a b0 c0 ha
 ·exact Sl x v w h hv a b0 c0 ha
 ·exact RQ x v w h hv a b0 c0
 ·exact Sq x v w h hv a b0 c0 (hr rfl).1 (hr rfl).2
 ·exact Sp x v w h hv a b0 c0
 ·exact RO x v w h hv a b0 c0
 ·exact RK x v w h hv a b0 c0
 ·exact Sf x v w h hv a b0 c0
 ·exact RL x v w h hv a b0 c0

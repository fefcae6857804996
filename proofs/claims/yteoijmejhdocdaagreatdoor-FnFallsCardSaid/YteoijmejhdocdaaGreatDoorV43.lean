import Derived.Test.YteoijmejhdocdaaGreatDoorV30
namespace Go.Proofs.YteoijmejhdocdaaGreatDoor.Mx
open Go.ChangeShapes Go.WideShapes Go.ChangeAt Go.RowKit
set_option linter.unusedVariables false
open Go.Lib (hid)
open Go.Proofs.Tryz
set_option maxRecDepth 20000
set_option maxHeartbeats 64000000
open Value renaming int → O, slice → ψ, bool → φ, agg → σ
open IntKind renaming i64 → U
open Ending renaming returned → τ
def KT (a0:Addr) (b p:Nat) (r:VolN × Int) (u:World) (e:Ending) (w':World):Prop:=
 (e = τ (O U r.2) \/ (e = .panicked [{ v:=.iface 280 (.pointer (some a0)),recovered:=false }] /\ r.2 = 1)) /\ ∃ cs,Aa w' p 31 cs /\ VolO w' b r.1 (σ cs) /\ BO b (some p) u w'
def Bad1 (w:World) (a0:Addr):Prop:=w.cell? ⟨0,0,none⟩ = some (.iface 280 (.pointer (some a0)))
theorem Bad1.below {w u:World} {a0:Addr} (h:Bad1 w a0) (hb:Below w.1.size w u):Bad1 u a0:=(hb.cell (p:=⟨0,0,none⟩) (RH h)).trans h
theorem Ij (a0:Addr) (w:World) (he:Bad1 w a0):Calls prog 52 #[φ false] w fun e w'=>e = .panicked [{ v:=.iface 280 (.pointer (some a0)),recovered:=false }] /\ w = w':=by
 have hc:w.cell? ⟨0,0,none⟩ = some (.iface 280 (.pointer (some a0))):=he
 clear he
 go_enter func52,ntmps52
 go_wp2_with fail
 exact ⟨rfl,rfl,rfl⟩
theorem VolO.litsP {u:World} {b:Nat} {x:VolN} {cs:Array Value} (h:VolO u b x (σ cs)):∃ A c B d C e g,cs = #[O U x.key,ψ A x.counts.length c,ψ B x.trusts.length d,ψ C x.cells.length e,ψ (some ⟨g,0,none⟩) 2 2,O U x.count]:=by
 obtain ⟨A,c,B,d,C,e,g,q0,q1,q2,q3,q4,q5,q6,q7,e9,-⟩:=h
 injection e9 with e9
 exact ⟨A,c,B,d,C,e,g,e9⟩
theorem Kept.turnP {w u v:World} {L L':List Box} {b p:Nat} (h:Kept w L u) (ht:BO b (some p) u v) (hb:w.1.size <= b) (hp:w.1.size <= p) (hL:∀ x ∈ L',w.1.size <= x.1 /\ Aa v x.1 x.2.1 x.2.2):Kept w L' v:=
 ⟨⟨ht.1.trans h.1.os,ht.2.1.trans h.1.tape,ht.2.2.1.trans h.1.output,Nat.le_trans h.1.size ht.2.2.2.1,fun k hk=>(ht.2.2.2.2 k (Nat.lt_of_lt_of_le hk hb) (fun e=>by injection e with e;omega)).trans (h.1.block k hk)⟩,hL⟩
theorem AF:(∀ (a0:Addr) (x:VolG) (v:Value) (vb:Nat) (w:World) (hx:x.Short) (hi:x.Int64) (hr:RdG w w.1.size x v) (he:Bad1 w a0) (hg:∀ k,none = some k -> Aa w k 2 #[O U 0]) (hok:x.okB = false),Calls prog 50 #[v,.func (.func 85) #[] #[.pointer (some ⟨vb,0,none⟩)]] w (GW w none (none,0,1))) /\
 (∀ (a0:Addr) (x:VolG) (v:Value) (vb:Nat) (r:VolN × Int) (w:World) (hx:x.Short) (hi:x.Int64) (hr:RdG w w.1.size x v) (he:Bad1 w a0) (hg:∀ k,none = some k -> Aa w k 2 #[O U 0]) (hok:x.okB = true) (hW:∀ (u:World) (b p:Nat) (cs:Array Value),Below w.1.size w u -> w.1.size <= p -> p < b -> b <= u.1.size -> Aa u p 31 cs -> VolO u b x.toN (σ cs) -> Calls prog 85 #[.pointer (some ⟨p,0,none⟩),.pointer (some ⟨vb,0,none⟩)] u (KT a0 b p r u)),Calls prog 50 #[v,.func (.func 85) #[] #[.pointer (some ⟨vb,0,none⟩)]] w (GW w none (some r.1,0,r.2))) /\
 (∀ (a0:Addr) (x:VolG) (v:Value) (w:World) (hx:x.Short) (hi:x.Int64) (hr:RdG w w.1.size x v) (he:Bad1 w a0) (hg:∀ k,none = some k -> Aa w k 2 #[O U 0]) (hok:x.okB = false),Calls prog 50 #[v,.func (.func 89) #[] #[]] w (GW w none (none,0,1))) /\
 (∀ (a0:Addr) (x:VolG) (v:Value) (r:VolN × Int) (w:World) (hx:x.Short) (hi:x.Int64) (hr:RdG w w.1.size x v) (he:Bad1 w a0) (hg:∀ k,none = some k -> Aa w k 2 #[O U 0]) (hok:x.okB = true) (hW:∀ (u:World) (b p:Nat) (cs:Array Value),Below w.1.size w u -> w.1.size <= p -> p < b -> b <= u.1.size -> Aa u p 31 cs -> VolO u b x.toN (σ cs) -> Calls prog 89 #[.pointer (some ⟨p,0,none⟩)] u (KT a0 b p r u)),Calls prog 50 #[v,.func (.func 89) #[] #[]] w (GW w none (some r.1,0,r.2))) /\
 (∀ (a0:Addr) (x:VolG) (v:Value) (vb:Nat) (w:World) (hx:x.Short) (hi:x.Int64) (hr:RdG w w.1.size x v) (he:Bad1 w a0) (hg:∀ k,none = some k -> Aa w k 2 #[O U 0]) (hok:x.okB = false),Calls prog 50 #[v,.func (.func 94) #[] #[.pointer (some ⟨vb,0,none⟩)]] w (GW w none (none,0,1))) /\
 (∀ (a0:Addr) (x:VolG) (v:Value) (vb:Nat) (r:VolN × Int) (w:World) (hx:x.Short) (hi:x.Int64) (hr:RdG w w.1.size x v) (he:Bad1 w a0) (hg:∀ k,none = some k -> Aa w k 2 #[O U 0]) (hok:x.okB = true) (hW:∀ (u:World) (b p:Nat) (cs:Array Value),Below w.1.size w u -> w.1.size <= p -> p < b -> b <= u.1.size -> Aa u p 31 cs -> VolO u b x.toN (σ cs) -> Calls prog 94 #[.pointer (some ⟨p,0,none⟩),.pointer (some ⟨vb,0,none⟩)] u (KT a0 b p r u)),Calls prog 50 #[v,.func (.func 94) #[] #[.pointer (some ⟨vb,0,none⟩)]] w (GW w none (some r.1,0,r.2))):=by
 refine ⟨fun a0 x v vb w hx hi hr he hg hok=>(fun (z_1:True)=>?_) trivial,fun a0 x v vb r w hx hi hr he hg hok hW=>(fun (z_2:True)=>?_) trivial,fun a0 x v w hx hi hr he hg hok=>(fun (z_3:True)=>?_) trivial,fun a0 x v r w hx hi hr he hg hok hW=>(fun (z_4:True)=>?_) trivial,fun a0 x v vb w hx hi hr he hg hok=>(fun (z_5:True)=>?_) trivial,fun a0 x v vb r w hx hi hr he hg hok hW=>(fun (z_6:True)=>?_) trivial⟩
 all_goals
  first
   | first | guard_hyp z_1 | guard_hyp z_3 | guard_hyp z_5
   | have HDU0:∀ (u:World),Below w.1.size w u -> Calls prog 70 #[v] u fun e w'=>∃ cs,e = τ (σ cs) /\ VolO w' u.1.size x.toN (σ cs) /\ Below u.1.size u w':=fun u hb=>by
       obtain ⟨A,c,B,d,C,e,b,off,s,e9,i1,i2,i3,i4,i5,i6,i7⟩:=(hr.grow hb).two (VolG.inv hi hok).1
       have h:=Kk x.toN A c B d C e b off s u ⟨hx.1,hx.2.1,hx.2.2.1,(hx.2.2.2.2 0 (by rw [(VolG.inv hi hok).1];decide)).1,(hx.2.2.2.2 0 (by rw [(VolG.inv hi hok).1];decide)).2,(hx.2.2.2.2 1 (by rw [(VolG.inv hi hok).1];decide)).1,(hx.2.2.2.2 1 (by rw [(VolG.inv hi hok).1];decide)).2⟩ i1 i2 i3 i4 i5 i6
       rw [<- e9] at h
       exact h
     have HDU:=hid HDU0
     clear HDU0
  obtain ⟨A,c,B,d,C,e,E,sc,rfl,i1,i2,i3,i4,i5,i6⟩:=hr
  have hmf:∀ (fn:Fn) (first cap:Array Value) (w:World),(Instr.makeFunc fn first cap).run prog w = .ok (.func fn first cap) w:=fun _ _ _ _=>rfl
  have K0:=hid (show Kept w [(w.1.size + 1 + 1,2,#[O U 0]),(w.1.size + 1,31,#[O U 0,ψ none 0 0,ψ none 0 0,ψ none 0 0,ψ none 0 0,O U 0]),(w.1.size,31,#[O U x.key,ψ A x.counts.length c,ψ B x.trusts.length d,ψ C x.cells.length e,ψ E x.slots.length sc,O U x.count])] _ from ((((Kept.refl w).put1 _ _ #[O U x.key,ψ A x.counts.length c,ψ B x.trusts.length d,ψ C x.cells.length e,ψ E x.slots.length sc,O U x.count] rfl).put1 _ _ #[O U 0,ψ none 0 0,ψ none 0 0,ψ none 0 0,ψ none 0 0,O U 0] (by simp)).put1 _ _ #[O U 0] (by simp)))
  first
   | first | guard_hyp z_1 | guard_hyp z_3 | guard_hyp z_5
     have HE:=hid he
   | skip
  have HG:=hid hg
  have HR:=hid (show RdG w w.1.size x (σ #[O U x.key,ψ A x.counts.length c,ψ B x.trusts.length d,ψ C x.cells.length e,ψ E x.slots.length sc,O U x.count]) from ⟨A,c,B,d,C,e,E,sc,rfl,i1,i2,i3,i4,i5,i6⟩)
  have VOK:=hid (fun (u:World) (hb:Below w.1.size w u)=>JU x (σ #[O U x.key,ψ A x.counts.length c,ψ B x.trusts.length d,ψ C x.cells.length e,ψ E x.slots.length sc,O U x.count]) u hx hi (HR.out.grow hb))
  first
   | first | guard_hyp z_1 | guard_hyp z_3 | guard_hyp z_5
     clear he hg i1 i2 i3 i4 i5 i6 hx hi HR
   | have HW:=hid hW
     clear he hg hW i1 i2 i3 i4 i5 i6 hx hi HR
  rw [hok] at VOK
  clear hok
  go_enter_defers func50,ntmps50
  go_upto_region 1 with fail
  have k0:=K0.out
  clear K0
  generalize World.alloc (World.alloc _ _) _ = w0 at k0 |-
  obtain ⟨X0,Y0,X1,Y1,X2,Y2,-⟩:=k0.rd
  go_wp2_with fail
  refine (VOK.out _ k0.1).mono ?_;rintro e1 w1 ⟨rfl,b1⟩
  have k1:=k0.below b1
  clear k0 b1 X0 Y0 X1 Y1 X2 Y2 VOK
  go_wp2_with fail
  first
   | first | guard_hyp z_1 | guard_hyp z_3 | guard_hyp z_5
     refine (Ij a0 w1 (HE.out.below k1.1)).mono ?_;rintro e1 w2 ⟨rfl,rfl⟩
     have K1:=hid k1
     clear k1
   | refine (Ie w1).mono ?_;rintro e1 w2 ⟨rfl,rfl⟩
     obtain ⟨X0,Y0,X1,Y1,X2,Y2,-⟩:=k1.rd
  go_wp2_with fail
  first
   | first | guard_hyp z_1 | guard_hyp z_3 | guard_hyp z_5
     refine leaves_cons (f:=124) (args:=#[.pointer (some ⟨w.1.size + 1 + 1,0,none⟩)]) (by simp) (by simp [go_sem]) ?_
     refine (Gx ⟨w.1.size + 1 + 1,0,none⟩ _ _ _ [] _ ((K1.out.cell (p:=w.1.size + 1 + 1) (t:=2) (cs:=#[O U 0]) (by simp) 0).trans rfl) (K1.out.frozen (p:=w.1.size + 1 + 1) (t:=2) (cs:=#[O U 0]) (by simp) 0)).mono ?_
     rintro e1 u' w3 ⟨rfl,rfl,rfl⟩
     have k3:Kept w [(w.1.size + 1 + 1,2,#[O U 1]),(w.1.size + 1,31,#[O U 0,ψ none 0 0,ψ none 0 0,ψ none 0 0,ψ none 0 0,O U 0]),(w.1.size,31,#[O U x.key,ψ A x.counts.length c,ψ B x.trusts.length d,ψ C x.cells.length e,ψ E x.slots.length sc,O U x.count])] _:=K1.out.put (k:=0) rfl (by unfold Apart;simp <;> omega) (Ai (Aj _ (some (w.1.size + 1 + 1))) 0 _) ((K1.out.at_ (p:=w.1.size + 1 + 1) (t:=2) (cs:=#[O U 0]) (by simp)).set_ 0 (O U 1))
     generalize World.setCell _ _ _ = w3 at k3 |-
   | refine (HDU.out _ k1.1).mono ?_;rintro e1 w2 ⟨cs,rfl,hv2,b2⟩
     have k2:=k1.below b2
     have hs2:=b2.size
     have lt2:w.1.size + 1 + 1 < w1.1.size:=k1.lt (x:=(w.1.size + 1 + 1,2,#[O U 0])) (by simp)
     have hv2':=hv2
     obtain ⟨A2,c2,B2,d2,C2,e2,g2,q0,q1,q2,q3,q4,q5,q6,q7,e9,-⟩:=hv2'
     injection e9 with e9
     subst e9
     clear k1 b2 X0 Y0 X1 Y1 X2 Y2 HDU
     obtain ⟨X0,Y0,X1,Y1,X2,Y2,-⟩:=k2.rd
     go_upto_region 4 with fail
     have p3:=Ed (x0:=O U x.toN.key) (x1:=ψ A2 x.toN.counts.length c2) (x2:=ψ B2 x.toN.trusts.length d2) (x3:=ψ C2 x.toN.cells.length e2) (x4:=ψ (some ⟨g2,0,none⟩) 2 2) (x5:=O U x.toN.count) (k2.at_ (p:=w.1.size + 1) (t:=31) (cs:=#[O U 0,ψ none 0 0,ψ none 0 0,ψ none 0 0,ψ none 0 0,O U 0]) (by simp))
     have k3:Kept w [(w.1.size + 1 + 1,2,#[O U 0]),(w.1.size + 1,31,#[O U x.toN.key,ψ A2 x.toN.counts.length c2,ψ B2 x.toN.trusts.length d2,ψ C2 x.toN.cells.length e2,ψ (some ⟨g2,0,none⟩) 2 2,O U x.toN.count]),(w.1.size,31,#[O U x.key,ψ A x.counts.length c,ψ B x.trusts.length d,ψ C x.cells.length e,ψ E x.slots.length sc,O U x.count])] _:=k2.put (k:=1) rfl (by unfold Apart;simp <;> omega) p3.2 p3.1
     have hv3:=hv2.out p3.2 (by omega)
     have hs3:=Nat.le_trans hs2 p3.2.size
     clear k2 hv2 p3 hs2 X0 Y0 X1 Y1 X2 Y2
     generalize World.setCell _ _ _ = w3 at k3 hv3 hs3 |-
  obtain ⟨X0,Y0,X1,Y1,X2,Y2,-⟩:=k3.rd
  first
   | first | guard_hyp z_1 | guard_hyp z_3 | guard_hyp z_5
     have fin:GW w none (none,0,1) (τ (.tuple #[σ #[O U 0,ψ none 0 0,ψ none 0 0,ψ none 0 0,ψ none 0 0,O U 0],O U 1])) w3:=⟨_,rfl,rfl,BO.of k3.1,fun k hk=>(HG.out k hk).below k3.1 (HG.out k hk).lt⟩
     have FIN:=hid fin
     clear fin k3 K1 HG HE
     simp [Leaves,settle,results,results50,go_sem,X0,X1]
     exact FIN.out
   | have hwl:w.1.size <= w1.1.size:=by omega
     go_wp2_with fail
     refine (HW.out w3 w1.1.size (w.1.size + 1) #[O U x.toN.key,ψ A2 x.toN.counts.length c2,ψ B2 x.toN.trusts.length d2,ψ C2 x.toN.cells.length e2,ψ (some ⟨g2,0,none⟩) 2 2,O U x.toN.count] k3.1 (by omega) (by omega) hs3 (k3.at_ (by simp)) hv3).mono ?_;rintro e1 w4 ⟨he4,cs4,hc4,hv4,ht4⟩
     obtain ⟨A4,c4,B4,d4,C4,e4,g4,rfl⟩:=hv4.litsP
     have k4:Kept w [(w.1.size + 1 + 1,2,#[O U 0]),(w.1.size + 1,31,#[O U r.1.key,ψ A4 r.1.counts.length c4,ψ B4 r.1.trusts.length d4,ψ C4 r.1.cells.length e4,ψ (some ⟨g4,0,none⟩) 2 2,O U r.1.count]),(w.1.size,31,#[O U x.key,ψ A x.counts.length c,ψ B x.trusts.length d,ψ C x.cells.length e,ψ E x.slots.length sc,O U x.count])] w4:=k3.turnP ht4 hwl (by omega) (by
      intro y hy
      simp only [List.mem_cons,List.not_mem_nil,or_false] at hy
      rcases hy with rfl | rfl | rfl
      ·exact ⟨by simp only [];omega,(ht4.2.2.2.2 _ (by simp only [];omega) (by simp)).trans (k3.at_ (by simp))⟩
      ·exact ⟨by simp only [];omega,hc4⟩
      ·exact ⟨by simp only [];omega,(ht4.2.2.2.2 _ (by simp only [];omega) (by simp)).trans (k3.at_ (by simp))⟩)
     clear k3 hv3 hs3 ht4 hc4 X0 Y0 X1 Y1 X2 Y2 HW
     have FIN:∀ u,Kept w [] u -> VolO u w1.1.size r.1 (σ #[O U r.1.key,ψ A4 r.1.counts.length c4,ψ B4 r.1.trusts.length d4,ψ C4 r.1.cells.length e4,ψ (some ⟨g4,0,none⟩) 2 2,O U r.1.count]) -> GW w none (some r.1,0,r.2) (τ (.tuple #[σ #[O U r.1.key,ψ A4 r.1.counts.length c4,ψ B4 r.1.trusts.length d4,ψ C4 r.1.cells.length e4,ψ (some ⟨g4,0,none⟩) 2 2,O U r.1.count],O U r.2])) u:=fun u hu hv=>
      ⟨_,rfl,hv.mono hwl,BO.of hu.1,fun k hk=>by cases hk⟩
     have HF:=hid FIN
     have HV:=hid hv4
     have HL:=hid lt2
     clear FIN hv4 HG
     rcases he4 with rfl | ⟨rfl,h1⟩
     ·obtain ⟨X0,Y0,X1,Y1,X2,Y2,-⟩:=k4.rd
      go_upto_region 5 with fail
      have gs:=Ai (Aj w4 (some (w.1.size + 1 + 1))) 0 (O U r.2)
      have k5:Kept w [(w.1.size + 1 + 1,2,#[O U r.2]),(w.1.size + 1,31,#[O U r.1.key,ψ A4 r.1.counts.length c4,ψ B4 r.1.trusts.length d4,ψ C4 r.1.cells.length e4,ψ (some ⟨g4,0,none⟩) 2 2,O U r.1.count]),(w.1.size,31,#[O U x.key,ψ A x.counts.length c,ψ B x.trusts.length d,ψ C x.cells.length e,ψ E x.slots.length sc,O U x.count])] _:=k4.put (k:=0) rfl (by unfold Apart;simp <;> omega) gs ((k4.at_ (p:=w.1.size + 1 + 1) (t:=2) (cs:=#[O U 0]) (by simp)).set_ 0 (O U r.2))
      have hv5:=HV.out.out gs HL.out
      clear k4 gs X0 Y0 X1 Y1 X2 Y2 HV
      generalize World.setCell _ _ _ = w5 at k5 hv5 |-
      refine Ao [false,false,true,true] (ShV []) (fun _ _ u=>KV w [(w.1.size + 1 + 1,2,#[O U r.2]),(w.1.size + 1,31,#[O U r.1.key,ψ A4 r.1.counts.length c4,ψ B4 r.1.trusts.length d4,ψ C4 r.1.cells.length e4,ψ (some ⟨g4,0,none⟩) 2 2,O U r.1.count]),(w.1.size,31,#[O U x.key,ψ A x.counts.length c,ψ B x.trusts.length d,ψ C x.cells.length e,ψ E x.slots.length sc,O U x.count])] w1.1.size r.1 (σ #[O U r.1.key,ψ A4 r.1.counts.length c4,ψ B4 r.1.trusts.length d4,ψ C4 r.1.cells.length e4,ψ (some ⟨g4,0,none⟩) 2 2,O U r.1.count]) u) (by kernel_rfl) (by kernel_rfl) (fun γ=>by kernel_rfl) (fun D γ γ' w _ h=>h) (ShV.inh _) (fun γ=>⟨k5.drew,hv5.drew⟩) (fun γ hγ=>?_)
      clear k5 hv5
      have g2':γ 2 = undef:=hγ 2 rfl
      have g3':γ 3 = undef:=hγ 3 rfl
      apply Exists.intro
      refine ⟨fun D=>?_,?_,?_⟩
      ·simp only [AP,cond_true,cond_false,Nat.reduceAdd,g2',g3']
       iterate 4 (first
        | go_big_quiet_skip
        | (go_big_quiet_want
           go_big_quiet_op
           first
            | go_big_quiet_on
            | (apply Exists.intro
               refine ⟨fun u hu=>?_,?_⟩
               ·first
                  | with_reducible rfl
                  | (obtain ⟨X0,Y0,X1,Y1,X2,Y2,-⟩:=hu.1.rd;go_simp;first | done | with_reducible rfl)
               go_big_quiet_on)))
       exact wpQuiet_nil rfl
      ·simp only [AY,Nat.reduceAdd]
       refine ⟨fun D u hD hd hu=>?_,fun D u hD hd hu=>?_,trivial⟩
       ·exact AI (hu.1.at_ (p:=w.1.size + 1) (t:=31) (cs:=#[O U r.1.key,ψ A4 r.1.counts.length c4,ψ B4 r.1.trusts.length d4,ψ C4 r.1.cells.length e4,ψ (some ⟨g4,0,none⟩) 2 2,O U r.1.count]) (by simp)) rfl rfl rfl (by kernel_rfl) rfl (by simp [Value.oneCell']) (fun w' hc hg=>⟨rfl,(show Kept w [(w.1.size + 1 + 1,2,#[O U r.2]),(w.1.size + 1,31,#[O U r.1.key,ψ A4 r.1.counts.length c4,ψ B4 r.1.trusts.length d4,ψ C4 r.1.cells.length e4,ψ (some ⟨g4,0,none⟩) 2 2,O U r.1.count]),(w.1.size,31,#[O U x.key,ψ A x.counts.length c,ψ B x.trusts.length d,ψ C x.cells.length e,ψ E x.slots.length sc,O U x.count])] w' from hu.1.put (k:=1) rfl (by unfold Apart;simp <;> omega) hg hc),hu.2.out hg (by have:=HL.out;omega)⟩)
       ·have hc0:=hu.1.at_ (p:=w.1.size + 1 + 1) (t:=2) (cs:=#[O U r.2]) (by simp)
        have gs:=Ai (Aj u (some (w.1.size + 1 + 1))) 0 (O U r.2)
        exact Nx (a:=⟨w.1.size + 1 + 1,0,none⟩) ((hc0.cell 0).trans rfl) (hc0.frozen 0) rfl rfl rfl (by kernel_rfl) ⟨rfl,(show Kept w [(w.1.size + 1 + 1,2,#[O U r.2]),(w.1.size + 1,31,#[O U r.1.key,ψ A4 r.1.counts.length c4,ψ B4 r.1.trusts.length d4,ψ C4 r.1.cells.length e4,ψ (some ⟨g4,0,none⟩) 2 2,O U r.1.count]),(w.1.size,31,#[O U x.key,ψ A x.counts.length c,ψ B x.trusts.length d,ψ C x.cells.length e,ψ E x.slots.length sc,O U x.count])] _ from hu.1.put (k:=0) rfl (by unfold Apart;simp <;> omega) gs (hc0.set_ 0 (O U r.2))),hu.2.out gs HL.out⟩
      intro D w6 hD hu
      obtain ⟨k6,hv6⟩:=hu
      clear hD g2' g3' hγ
      obtain ⟨X0,Y0,X1,Y1,X2,Y2,-⟩:=k6.rd
      go_wp2_with fail
      refine leaves_cons (f:=124) (args:=#[.pointer (some ⟨w.1.size + 1 + 1,0,none⟩)]) (by simp) (by simp [go_sem]) ?_
      refine (PJ ⟨w.1.size + 1 + 1,0,none⟩ _).mono ?_
      rintro e1 u' w7 ⟨rfl,rfl,rfl⟩
      have FN:=hid (HF.out _ (k6.sub (by intro y hy;cases hy)) hv6)
      clear k6 hv6 HF HL
      simp [Leaves,settle,results,results50,go_sem,X0,X1]
      exact FN.out
     ·have K4:=hid k4
      clear k4
      go_wp2_with fail
      refine leaves_cons (f:=124) (args:=#[.pointer (some ⟨w.1.size + 1 + 1,0,none⟩)]) (by simp) (by simp [go_sem]) ?_
      refine (Gx ⟨w.1.size + 1 + 1,0,none⟩ _ _ _ [] _ ((K4.out.cell (p:=w.1.size + 1 + 1) (t:=2) (cs:=#[O U 0]) (by simp) 0).trans rfl) (K4.out.frozen (p:=w.1.size + 1 + 1) (t:=2) (cs:=#[O U 0]) (by simp) 0)).mono ?_
      rintro e1 u' w7 ⟨rfl,rfl,rfl⟩
      have gs:=Ai (Aj w4 (some (w.1.size + 1 + 1))) 0 (O U 1)
      have k7:Kept w [(w.1.size + 1 + 1,2,#[O U 1]),(w.1.size + 1,31,#[O U r.1.key,ψ A4 r.1.counts.length c4,ψ B4 r.1.trusts.length d4,ψ C4 r.1.cells.length e4,ψ (some ⟨g4,0,none⟩) 2 2,O U r.1.count]),(w.1.size,31,#[O U x.key,ψ A x.counts.length c,ψ B x.trusts.length d,ψ C x.cells.length e,ψ E x.slots.length sc,O U x.count])] _:=K4.out.put (k:=0) rfl (by unfold Apart;simp <;> omega) gs ((K4.out.at_ (p:=w.1.size + 1 + 1) (t:=2) (cs:=#[O U 0]) (by simp)).set_ 0 (O U 1))
      have hv7:=HV.out.out gs HL.out
      generalize World.setCell _ _ _ = w7 at k7 hv7 |-
      obtain ⟨X0,Y0,X1,Y1,X2,Y2,-⟩:=k7.rd
      have FN:=hid (HF.out _ (k7.sub (by intro y hy;cases hy)) hv7)
      rw [h1] at FN
      clear k7 hv7 HF HL K4 gs HV
      simp [Leaves,settle,results,results50,go_sem,X0,X1]
      exact FN.out
theorem Hl:type_of% AF.1:=AF.1
theorem GZ:type_of% AF.2.1:=AF.2.1
theorem Ii:type_of% AF.2.2.1:=AF.2.2.1
theorem Hn:type_of% AF.2.2.2.1:=AF.2.2.2.1
theorem Ia:type_of% AF.2.2.2.2.1:=AF.2.2.2.2.1
theorem Hm:type_of% AF.2.2.2.2.2:=AF.2.2.2.2.2

import Derived.Test.YteoijmejhdocdaaGreatDoorV36
import Derived.Test.YteoijmejhdocdaaGreatDoorV38
namespace Go.Proofs.YteoijmejhdocdaaGreatDoor.Mx
open Go.ChangeShapes Go.WideShapes Go.ChangeAt Go.RowKit
set_option linter.unusedVariables false
open Go.Lib (hid)
open Go.Proofs.Tryz
set_option maxRecDepth 20000
set_option maxHeartbeats 64000000
open Value renaming int → O, slice → ψ, bool → φ, agg → σ
open IntKind renaming i64 → U
open Ending renaming returned → τ
theorem St.off {v w w':World} {g p:Nat} {A:Option Addr} {l:List Int} {cap:Nat} (h:St v g A l cap w) (hb:w.grownBy w' (some p)) (hg:g < p):St v g A l cap w':=
 ⟨bgb h.1 hb (Nat.le_of_lt h.2.lt) (Nat.le_of_lt hg),h.2.gb hb hg⟩
theorem MZ {a b c:World} {g p:Nat} (h:a.grownBy b (some g)) (h2:b.grownBy c (some p)) (hp:a.1.size <= p):a.grownBy c (some g):=
 ⟨h2.os.trans h.os,h2.tape.trans h.tape,h2.output.trans h.output,Nat.le_trans h.size h2.size,fun k hk hr=>(h2.block k (Nat.lt_of_lt_of_le hk h.size) (by intro e;injection e with e;omega)).trans (h.block k hk hr)⟩
def Pi (w:World) (q:Nat) (v:World) (g:Nat) (A:Option Addr) (l:List Int) (cap:Nat) (n:Nat) (y:VolN) (wr:World):Prop:=
 n <= 9000 /\ y.Inv /\ ∃ A1 c1 B1 k1 C1 e1 b1 o1 t1,Aa wr q 31 #[O U y.key,ψ A1 y.counts.length c1,ψ B1 y.trusts.length k1,ψ C1 y.cells.length e1,ψ (some ⟨b1,o1,none⟩) 2 t1,O U y.count] /\ Aa wr w.1.size 31 #[O U 0,ψ none 0 0,ψ none 0 0,ψ none 0 0,ψ none 0 0,O U 0] /\ VolO wr (w.1.size + 1) y (σ #[O U y.key,ψ A1 y.counts.length c1,ψ B1 y.trusts.length k1,ψ C1 y.cells.length e1,ψ (some ⟨b1,o1,none⟩) 2 t1,O U y.count]) /\ St v g A l cap wr /\ w.grownBy wr (some g)
def D12C (w:World) (q:Nat) (v:World) (g:Nat) (A:Option Addr) (l:List Int) (cap:Nat) (z:VolN) (VC:Array Value) (D:Nat -> Bool) (γ:Nat -> Value) (u:World):Prop:=
 St v g A l cap u /\ w.grownBy u (some g) /\ Aa u w.1.size 31 #[O U 0,ψ none 0 0,ψ none 0 0,ψ none 0 0,ψ none 0 0,O U 0] /\ (D 8 = false -> VolO u (w.1.size + 1) z (σ VC)) /\ (D 8 = false -> Aa u q 31 VC) /\ q < u.1.size /\
 (D 3 = true -> ∃ kind a b c:Int,γ 3 = σ #[O U kind,O U a,O U b,O U c] /\ (1 <= kind /\ kind <= 9) /\ (0 <= a /\ a <= 1048576) /\ (kind = 4 -> a < z.trusts.length)) /\
 (D 4 = true -> ∃ (y:VolN) (cs:Array Value) (x:Value),γ 4 = .tuple #[σ cs,x] /\ y.Inv /\ VolO u (q + 1) y (σ cs)) /\
 (D 8 = true -> D 0 = true /\ D 2 = true /\ D 3 = true /\ D 4 = true /\ ∃ (cs:Array Value) (x:Value),γ 4 = .tuple #[σ cs,x] /\ Aa u q 31 cs) /\
 (D 0 = true -> γ 0 = σ VC) /\ (D 2 = true -> γ 2 = σ VC)
section
variable {w v u u':World} {q g:Nat} {A:Option Addr} {l:List Int} {cap:Nat} {z:VolN} {VC:Array Value} {D:Nat -> Bool} {γ γ':Nat -> Value}
theorem D12C.loc (ha:∀ i,D i = true -> γ i = γ' i) (h:D12C w q v g A l cap z VC D γ u):D12C w q v g A l cap z VC D γ' u:=by
 obtain ⟨h1,h2,h3,h4,h5,h6,h7,h8,h9,h10,h11⟩:=h
 refine ⟨h1,h2,h3,h4,h5,h6,fun e=>?_,fun e=>?_,fun e=>?_,fun e=>?_,fun e=>?_⟩
 ·rw [<- ha 3 e];exact h7 e
 ·rw [<- ha 4 e];exact h8 e
 ·obtain ⟨a,b,c,d,k⟩:=h9 e
  rw [<- ha 4 d];exact ⟨a,b,c,d,k⟩
 ·rw [<- ha 0 e];exact h10 e
 ·rw [<- ha 2 e];exact h11 e
theorem D12C.start (hs:St v g A l cap u) (hg:w.grownBy u (some g)) (hk:Aa u w.1.size 31 #[O U 0,ψ none 0 0,ψ none 0 0,ψ none 0 0,ψ none 0 0,O U 0]) (hv:VolO u (w.1.size + 1) z (σ VC)) (hb:Aa u q 31 VC):D12C w q v g A l cap z VC (fun _=>false) γ u.drew:=
 ⟨hs.drew,Fi hg,hk.drew,fun _=>hv,fun _=>hb.drew,hb.lt,fun e=>by (cases e),fun e=>by (cases e),fun e=>by (cases e),fun e=>by (cases e),fun e=>by (cases e)⟩
theorem D12C.d8 (h:D12C w q v g A l cap z VC D γ u) {i:Nat} (hi:i = 0 \/ i = 2 \/ i = 3 \/ i = 4) (hD:D i = false):D 8 = false:=by
 cases e:D 8 with
 | false=>rfl
 | true=>
   obtain ⟨a,b,c,d,-⟩:=h.2.2.2.2.2.2.2.2.1 e
   rcases hi with rfl | rfl | rfl | rfl
   ·rw [a] at hD;cases hD
   ·rw [b] at hD;cases hD
   ·rw [c] at hD;cases hD
   ·rw [d] at hD;cases hD
theorem D12C.load0 (h:D12C w q v g A l cap z VC D γ u) (hD:D 0 = false):D12C w q v g A l cap z VC (setD D 0) (setG γ 0 (σ VC)) u:=by
 have d8:=h.d8 (.inl rfl) hD
 obtain ⟨h1,h2,h3,h4,h5,h6,h7,h8,h9,h10,h11⟩:=h
 refine ⟨h1,h2,h3,fun _=>h4 d8,fun _=>h5 d8,h6,fun e=>?_,fun e=>?_,fun e=>?_,fun e=>By,fun e=>?_⟩
 ·rw [An (by omega)] at e;rw [At (by omega)];exact h7 e
 ·rw [An (by omega)] at e;rw [At (by omega)];exact h8 e
 ·rw [An (by omega),d8] at e;cases e
 ·rw [An (by omega)] at e;rw [At (by omega)];exact h11 e
theorem D12C.load2 (h:D12C w q v g A l cap z VC D γ u) (hD:D 2 = false):D12C w q v g A l cap z VC (setD D 2) (setG γ 2 (σ VC)) u:=by
 have d8:=h.d8 (.inr (.inl rfl)) hD
 obtain ⟨h1,h2,h3,h4,h5,h6,h7,h8,h9,h10,h11⟩:=h
 refine ⟨h1,h2,h3,fun _=>h4 d8,fun _=>h5 d8,h6,fun e=>?_,fun e=>?_,fun e=>?_,fun e=>?_,fun e=>By⟩
 ·rw [An (by omega)] at e;rw [At (by omega)];exact h7 e
 ·rw [An (by omega)] at e;rw [At (by omega)];exact h8 e
 ·rw [An (by omega),d8] at e;cases e
 ·rw [An (by omega)] at e;rw [At (by omega)];exact h10 e
theorem D12C.draw (h:D12C w q v g A l cap z VC D γ u) (hD:D 3 = false) (hg0:g < w.1.size) (hq:w.1.size < q) {kind a b c:Int} (hk:1 <= kind /\ kind <= 9) (ha:0 <= a /\ a <= 1048576) (hka:kind = 4 -> a < z.trusts.length) (hs:St v g A l cap u') (hg:u.grownBy u' (some g)):
    D12C w q v g A l cap z VC (setD D 3) (setG γ 3 (σ #[O U kind,O U a,O U b,O U c])) u':=by
 have d8:=h.d8 (.inr (.inr (.inl rfl))) hD
 obtain ⟨h1,h2,h3,h4,h5,h6,h7,h8,h9,h10,h11⟩:=h
 refine ⟨hs,Ar h2 hg,h3.grown hg (by intro e;injection e;omega),fun _=>(h4 d8).out hg (by omega),fun _=>(h5 d8).grown hg (by intro e;injection e;omega),Nat.lt_of_lt_of_le h6 hg.size,fun e=>⟨kind,a,b,c,By,hk,ha,hka⟩,fun e=>?_,fun e=>?_,fun e=>?_,fun e=>?_⟩
 ·rw [An (by omega)] at e;rw [At (by omega)]
  obtain ⟨y,cs,x,e1,e2,e3⟩:=h8 e
  exact ⟨y,cs,x,e1,e2,e3.out hg (by omega)⟩
 ·rw [An (by omega),d8] at e;cases e
 ·rw [An (by omega)] at e;rw [At (by omega)];exact h10 e
 ·rw [An (by omega)] at e;rw [At (by omega)];exact h11 e
theorem D12C.did (h:D12C w q v g A l cap z VC D γ u) (hD:D 4 = false) (hg0:g < w.1.size) (hq:w.1.size < q) {y:VolN} {cs:Array Value} {x:Value} (hi:y.Inv) (hv:VolO u' u.1.size y (σ cs)) (hb:Below u.1.size u u'):
    D12C w q v g A l cap z VC (setD D 4) (setG γ 4 (.tuple #[σ cs,x])) u':=by
 have d8:=h.d8 (.inr (.inr (.inr rfl))) hD
 obtain ⟨h1,h2,h3,h4,h5,h6,h7,h8,h9,h10,h11⟩:=h
 refine ⟨h1.below hb (by omega),Ar h2 (BV hb _),h3.below hb (by omega),fun _=>(h4 d8).below hb,fun _=>(h5 d8).below hb h6,Nat.lt_of_lt_of_le h6 hb.size,fun e=>?_,fun e=>⟨y,cs,x,By,hi,hv.mono (by omega)⟩,fun e=>?_,fun e=>?_,fun e=>?_⟩
 ·rw [An (by omega)] at e;rw [At (by omega)];exact h7 e
 ·rw [An (by omega),d8] at e;cases e
 ·rw [An (by omega)] at e;rw [At (by omega)];exact h10 e
 ·rw [An (by omega)] at e;rw [At (by omega)];exact h11 e
theorem D12C.store (h:D12C w q v g A l cap z VC D γ u) (d0:D 0 = true) (d2:D 2 = true) (d3:D 3 = true) (d4:D 4 = true) (hg0:g < w.1.size) (hq:w.1.size < q) {cs:Array Value} {x xx:Value} (he:γ 4 = .tuple #[σ cs,x]) (hc:Aa u' q 31 cs) (hg:u.grownBy u' (some q)):
    D12C w q v g A l cap z VC (setD D 8) (setG γ 8 xx) u':=by
 obtain ⟨h1,h2,h3,h4,h5,h6,h7,h8,h9,h10,h11⟩:=h
 refine ⟨h1.off hg (by omega),MZ h2 hg (by omega),h3.grown hg (by intro e;injection e;omega),fun e=>?_,fun e=>?_,Nat.lt_of_lt_of_le h6 hg.size,fun e=>?_,fun e=>?_,fun e=>?_,fun e=>?_,fun e=>?_⟩
 ·rw [CQ] at e;cases e
 ·rw [CQ] at e;cases e
 ·rw [At (by omega)];exact h7 d3
 ·rw [At (by omega)]
  obtain ⟨y,cs,x,e1,e2,e3⟩:=h8 d4
  exact ⟨y,cs,x,e1,e2,e3.out hg (by omega)⟩
 ·rw [An (by omega),An (by omega),An (by omega),An (by omega),At (by omega)]
  exact ⟨d0,d2,d3,d4,cs,x,he,hc⟩
 ·rw [At (by omega)];exact h10 d0
 ·rw [At (by omega)];exact h11 d2
end
def VolS (v w:World) (g:Nat) (A:Option Addr) (l:List Int) (cap:Nat) (e:Ending) (w':World):Prop:=
 ∃ (y:VolN) (cs:Array Value),e = τ (σ cs) /\ y.Inv /\ VolO w' w.1.size y (σ cs) /\ St v g A l cap w' /\ w.grownBy w' (some g)
theorem MU (v:World) (g:Nat) (A:Option Addr) (l:List Int) (cap:Nat) (w:World) (hn:l.length <= 4096) (h:St v g A l cap w):
    Calls prog 121 #[.pointer (some ⟨g,0,none⟩)] w (VolS v w g A l cap):=by
 have HN:=hid (show l.length <= maxLen by unfold maxLen;omega)
 have HL:=h.2.lt
 have S0:=hid (h.alloc (.cells #[O U 0,ψ none 0 0,ψ none 0 0,ψ none 0 0,ψ none 0 0,O U 0] 31))
 have K0:=hid (Aa.new w 31 #[O U 0,ψ none 0 0,ψ none 0 0,ψ none 0 0,ψ none 0 0,O U 0])
 have G0:=hid (AZ (Aj w (some g)) (.cells #[O U 0,ψ none 0 0,ψ none 0 0,ψ none 0 0,ψ none 0 0,O U 0] 31))
 have hnl:(l.length:Int) <= 4096:=by omega
 clear hn h
 go_enter func121,ntmps121
 go_wp2_with fail
 refine (Na v g A l cap _ HN.out S0.out).mono ?_;rintro e w1 ⟨key,u,zs,rfl,hp,r1,s1,g1⟩
 obtain ⟨QA,qc,hq,hqi,hqc⟩:=r1.reads_cap
 subst hq
 have S1:=hid s1
 have K1:=hid (K0.out.grown g1 (by intro e;injection e;omega))
 have G1:=hid (Ar G0.out g1)
 have QI:=hid hqi
 have HP:=hid hp
 have hz1:w.1.size < w1.1.size:=by have:=g1.size;simp at this;omega
 clear s1 g1 r1 hqi hp S0 K0 G0
 go_wp2_with fail
 refine (Gw key QA zs qc _ hqc QI.out HP.out).mono ?_;rintro e w2 ⟨cs,rfl,hv,hb⟩
 obtain ⟨y,hy⟩:∃ y,y = Cl key zs:=⟨_,rfl⟩
 have HI:=hid (show y.Inv by rw [hy];exact Hp HP.out)
 rw [<- hy] at hv
 clear hy
 obtain ⟨A',c',B',d',C',e',b',o',s',e1,-⟩:=hv.reads
 subst e1
 have hz2:w1.1.size <= w2.1.size:=hb.size
 have s2:=S1.out.below hb (show g < w1.1.size by omega)
 have k2:=K1.out.below hb hz1
 have g2:=FT G1.out (hb.mono (by omega))
 have v2:=hv.mono (show w.1.size + 1 <= w1.1.size by omega)
 have s3:=s2.alloc (.cells #[O U y.key,ψ A' y.counts.length c',ψ B' y.trusts.length d',ψ C' y.cells.length e',ψ (some ⟨b',o',none⟩) 2 s',O U y.count] 31)
 have k3:=Aa.grown k2 (World.grownBy_alloc w2 (.cells #[O U y.key,ψ A' y.counts.length c',ψ B' y.trusts.length d',ψ C' y.cells.length e',ψ (some ⟨b',o',none⟩) 2 s',O U y.count] 31) none) (by simp)
 have g3:=AZ g2 (.cells #[O U y.key,ψ A' y.counts.length c',ψ B' y.trusts.length d',ψ C' y.cells.length e',ψ (some ⟨b',o',none⟩) 2 s',O U y.count] 31)
 have v3:=v2.below ((Below.refl _ _).alloc (lr _) (.cells #[O U y.key,ψ A' y.counts.length c',ψ B' y.trusts.length d',ψ C' y.cells.length e',ψ (some ⟨b',o',none⟩) 2 s',O U y.count] 31))
 have b3:=Aa.new w2 31 #[O U y.key,ψ A' y.counts.length c',ψ B' y.trusts.length d',ψ C' y.cells.length e',ψ (some ⟨b',o',none⟩) 2 s',O U y.count]
 clear hv hb s2 k2 g2 v2 S1 K1 G1
 go_upto_region 2 with fail
 generalize World.alloc w2 _ = w3 at s3 k3 g3 v3 b3 |-
 have S3:=hid s3
 have K3:=hid k3
 have G3:=hid g3
 have V3:=hid v3
 have B3:=hid b3
 obtain ⟨i0,h0,hi0,hcur⟩:=s3.2.2
 have cu:∀ i,w3.cell? ⟨g,i,none⟩ = #[ψ A l.length cap,O U i0,O U h0][i]?:=hcur.cell
 have hwl:IntKind.i64.wrap (2 + (l.length:Int)) = 2 + l.length:=IntWalk.i64_in _ (by omega)
 clear s3 k3 g3 v3 b3 hcur
 go_region_with (first
  | (go_at_call 84;refine (Bp v g A l cap 30 _ HN.out S3.out.drew (by omega)).mono ?_;rintro e wx ⟨n0,rfl,⟨n00,n01⟩,sx,gx⟩;have hcx:=sx.2.2;obtain ⟨i1,h1,hi1,hc1⟩:=hcx;have cx:∀ i,wx.cell? ⟨g,i,none⟩ = #[ψ A l.length cap,O U i1,O U h1][i]?:=hc1.cell;have SX:=hid sx;have KX:=hid (K3.out.drew.grown gx (by intro e;injection e;omega));have GX:=hid (Ar (Fi G3.out) gx);have VX:=hid (VolO.out (show VolO w3.drew (w.1.size + 1) y _ from V3.out) gx (by omega));have BX:=hid (B3.out.drew.grown gx (by intro e;injection e;omega));clear sx gx hc1)
  | (go_at_call 185;refine (Mw _ _ _).mono ?_;rintro e w' ⟨rfl,rfl⟩))
 all_goals
  obtain ⟨m,hm⟩:∃ m:Nat,min (2 + (l.length:Int)) n0 = m:=⟨(min (2 + (l.length:Int)) n0).toNat,by omega⟩
  rw [hm]
  have R0:=hid (show Pi w w2.1.size v g A l cap m y wx from ⟨by omega,HI.out,A',c',B',d',C',e',b',o',s',BX.out,KX.out,VX.out,SX.out,GX.out⟩)
  have hl2:w2.1.size < wx.1.size:=BX.out.lt
  clear cu cx hm HI SX KX GX VX BX S3 K3 G3 V3 B3 QI hqc HP hwl hi0 n00 n01 hi1
  go_simp
  go_wp2_with fail
  trace_state
  go_loopw [4] (fun i wr=>∃ (n:Nat) (y:VolN),i = O U n /\ Pi w w2.1.size v g A l cap n y wr) (fun i _=>(intOf i).toNat)
  case atStart=>exact ⟨m,y,rfl,R0.out⟩
  case round=>
   obtain ⟨n,z,rfl,hn9,hz,A1,c1,B1,k1,C1,e1,b1,o1,t1,hb,hk,hv,hs,hg⟩:=hrel
   have h6:∀ i,wr.cell? ⟨w2.1.size,i,none⟩ = #[O U z.key,ψ A1 z.counts.length c1,ψ B1 z.trusts.length k1,ψ C1 z.cells.length e1,ψ (some ⟨b1,o1,none⟩) 2 t1,O U z.count][i]?:=hb.cell
   have k6:∀ i,wr.cell? ⟨w.1.size,i,none⟩ = #[O U 0,ψ none 0 0,ψ none 0 0,ψ none 0 0,ψ none 0 0,O U 0][i]?:=hk.cell
   have f6:=hb.frozen
   have f7:=hk.frozen
   rcases n with _ | n
   ·have HK:=hid hk
    have HVO:=hid hv
    have SO:=hid hs
    have GO:=hid hg
    have HZ:=hid hz
    clear hk hv hs hg hz hb
    go_wp2_with fail
    have hvp:=Ed (x0:=O U z.key) (x1:=ψ A1 z.counts.length c1) (x2:=ψ B1 z.trusts.length k1) (x3:=ψ C1 z.cells.length e1) (x4:=ψ (some ⟨b1,o1,none⟩) 2 t1) (x5:=O U z.count) HK.out
    generalize World.setCell _ _ _ = w9 at hvp |-
    have d0:=hvp.1.cell 0
    have d1:=hvp.1.cell 1
    have d2:=hvp.1.cell 2
    have d3:=hvp.1.cell 3
    have d4:=hvp.1.cell 4
    have d5:=hvp.1.cell 5
    simp only [List.getElem?_toArray,List.getElem?_cons_zero,List.getElem?_cons_succ] at d0 d1 d2 d3 d4 d5
    exact bodyPost_ret (v:=σ #[O U z.key,ψ A1 z.counts.length c1,ψ B1 z.trusts.length k1,ψ C1 z.cells.length e1,ψ (some ⟨b1,o1,none⟩) 2 t1,O U z.count]) (by simp [results,results121,go_sem,d0,d1,d2,d3,d4,d5]) rfl ⟨z,_,rfl,HZ.out,(HVO.out.out hvp.2 (by omega)).mono (by omega),SO.out.off hvp.2 HL,MZ GO.out hvp.2 (lr _)⟩
   ·have hd:(0:Int) < ((n + 1:Nat):Int):=by omega
    have HK:=hid hk
    have HB:=hid hb
    have HVO:=hid hv
    have SO:=hid hs
    have GO:=hid hg
    have HZ:=hid hz
    clear hk hv hs hg hz hb
    obtain ⟨q1,q2,q3,q4⟩:z.counts.length <= 1048576 /\ z.trusts.length <= 1048576 /\ z.cells.length <= 1048576 /\ z.trusts.length = z.counts.length:=by
     have a:=HZ.out.short
     unfold VolN.Short at a
     have b:=HZ.out.fit.1
     omega
    have q5:=HZ.out.pos
    have hlr:w2.1.size < wr.1.size:=HB.out.lt
    go_upto_region 5 with fail
    have hq2:w.1.size < w2.1.size:=by omega
    have C0:=hid (fun γ=>D12C.start (γ:=γ) SO.out GO.out HK.out HVO.out HB.out)
    refine Ao [true,false,true,true,true,false,false,false,true] (ShL [(0,fun v=>v = σ #[O U z.key,ψ A1 z.counts.length c1,ψ B1 z.trusts.length k1,ψ C1 z.cells.length e1,ψ (some ⟨b1,o1,none⟩) 2 t1,O U z.count]),(2,fun v=>v = σ #[O U z.key,ψ A1 z.counts.length c1,ψ B1 z.trusts.length k1,ψ C1 z.cells.length e1,ψ (some ⟨b1,o1,none⟩) 2 t1,O U z.count]),(3,fun v=>∃ kind a b c:Int,v = σ #[O U kind,O U a,O U b,O U c]),(4,fun v=>∃ (a0:Int) (A0:Option Addr) (b0 c0:Nat) (A1:Option Addr) (b1 c1:Nat) (A2:Option Addr) (b2 c2:Nat) (A3:Option Addr) (b3 c3:Nat) (a4 x0 x1:Int),v = .tuple #[σ #[O U a0,ψ A0 b0 c0,ψ A1 b1 c1,ψ A2 b2 c2,ψ A3 b3 c3,O U a4],σ #[O U x0,O U x1]])]) (fun D γ u=>D12C w w2.1.size v g A l cap z #[O U z.key,ψ A1 z.counts.length c1,ψ B1 z.trusts.length k1,ψ C1 z.cells.length e1,ψ (some ⟨b1,o1,none⟩) 2 t1,O U z.count] D γ u) (by kernel_rfl) (by kernel_rfl) (fun γ=>by kernel_rfl) (fun D γ γ' w ha h=>h.loc ha) (ShL.inh _ ?inh) (fun γ=>C0.out γ) (fun γ hγ=>?_)
    case inh=>
     intro y hy
     simp only [List.mem_cons,List.not_mem_nil,or_false] at hy
     rcases hy with rfl | rfl | rfl | rfl
     ·exact ⟨_,rfl⟩
     ·exact ⟨_,rfl⟩
     ·exact ⟨_,0,0,0,0,rfl⟩
     ·exact ⟨_,0,none,0,0,none,0,0,none,0,0,none,0,0,0,0,0,rfl⟩
    have e0:γ 0 = σ #[O U z.key,ψ A1 z.counts.length c1,ψ B1 z.trusts.length k1,ψ C1 z.cells.length e1,ψ (some ⟨b1,o1,none⟩) 2 t1,O U z.count]:=hγ 0 rfl
    have e2:γ 2 = σ #[O U z.key,ψ A1 z.counts.length c1,ψ B1 z.trusts.length k1,ψ C1 z.cells.length e1,ψ (some ⟨b1,o1,none⟩) 2 t1,O U z.count]:=hγ 2 rfl
    obtain ⟨kd,na,nb,nc,e3⟩:∃ kind a b c:Int,γ 3 = σ #[O U kind,O U a,O U b,O U c]:=hγ 3 rfl
    obtain ⟨p0,P0,r0,s0,P1,r1,s1,P2,r2,s2,P3,r3,s3,p4,x0,x1,e4⟩:∃ (a0:Int) (A0:Option Addr) (b0 c0:Nat) (A1:Option Addr) (b1 c1:Nat) (A2:Option Addr) (b2 c2:Nat) (A3:Option Addr) (b3 c3:Nat) (a4 x0 x1:Int),γ 4 = .tuple #[σ #[O U a0,ψ A0 b0 c0,ψ A1 b1 c1,ψ A2 b2 c2,ψ A3 b3 c3,O U a4],σ #[O U x0,O U x1]]:=hγ 4 rfl
    have e8:γ 8 = undef:=hγ 8 rfl
    clear hγ C0
    apply Exists.intro
    refine ⟨fun D=>?_,?_,?_⟩
    ·simp only [AP,cond_true,cond_false,Nat.reduceAdd,e0,e2,e3,e4,e8]
     iterate 9 (first
      | go_big_quiet_skip
      | (go_big_quiet_want
         go_big_quiet_op
         first
          | go_big_quiet_on
          | (apply Exists.intro
             refine ⟨fun u hu=>?_,?_⟩
             ·first
                | with_reducible rfl
                | (go_simp;first | done | with_reducible rfl)
             go_big_quiet_on)))
     exact wpQuiet_nil rfl
    ·simp only [AY,Nat.reduceAdd]
     refine ⟨fun D u hD hd hu=>?_,fun D u hD hd hu=>?_,fun D u hD hd hu=>?_,fun D u hD hd hu=>?_,fun D u hD hd hu=>?_,trivial⟩
     ·exact KM (hu.2.2.2.2.1 (hu.d8 (.inl rfl) hD)) rfl rfl underlying31 rfl (by kernel_rfl) ⟨rfl,hu.load0 hD⟩
     ·exact KM (hu.2.2.2.2.1 (hu.d8 (.inr (.inl rfl)) hD)) rfl rfl underlying31 rfl (by kernel_rfl) ⟨rfl,hu.load2 hD⟩
     ·exact As ((Pk v g A l cap u HN.out hu.1 z.key z.count A1 B1 C1 _ z.counts.length c1 z.trusts.length k1 z.cells.length e1 2 t1 q2 q3 q5).mono fun e w' ⟨kind,a,b,c,he,hkd,ha,hka,sy,gy⟩=>⟨_,he,⟨_,_,_,_,rfl⟩,hu.draw hD HL hq2 hkd ha hka sy gy⟩) rfl rfl rfl rfl (by kernel_rfl)
     ·have d3:=hd { on:=3,ground:=Ground.data } (by simp) rfl rfl
      have d8:=hu.d8 (.inr (.inr (.inr rfl))) hD
      obtain ⟨kind,a,b,c,ee,hkd,ha,hka⟩:=hu.2.2.2.2.2.2.1 d3
      rw [e3] at ee
      simp only [Value.agg.injEq,Array.mk.injEq,List.cons.injEq,Value.int.injEq,true_and,and_true] at ee
      obtain ⟨rfl,rfl,rfl,rfl⟩:=ee
      exact As ((Qk z _ u HZ.out (hu.2.2.2.1 d8).reads kd na nb nc hkd.1 hkd.2 ⟨by omega,by omega⟩ (fun h4=>⟨ha.1,by have:=hka h4;omega⟩)).mono fun e w' ⟨cs,he,hv5,hb5⟩=>⟨_,he,by obtain ⟨A',c',B',d',C',e',b',o',s',e1q,-⟩:=hv5.reads;rw [e1q];exact ⟨_,_,_,_,_,_,_,_,_,_,_,_,_,_,_,_,rfl⟩,hu.did hD HL hq2 (Jt HZ.out kd na nb nc) hv5 hb5⟩) rfl rfl rfl rfl (by kernel_rfl)
     ·have d0:=hd { on:=0,ground:=Ground.phase } (by simp) rfl rfl
      have d2:=hd { on:=2,ground:=Ground.phase } (by simp) rfl rfl
      have d3:=hd { on:=3,ground:=Ground.phase } (by simp) rfl rfl
      have d4:=hd { on:=4,ground:=Ground.phase } (by simp) rfl rfl
      exact AI (hu.2.2.2.2.1 hD) rfl rfl rfl (by kernel_rfl) (by simp) (by simp [Value.oneCell']) (fun w' hc hg=>⟨rfl,hu.store d0 d2 d3 d4 HL hq2 e4 hc hg⟩)
    ·intro D uf hD hu
     obtain ⟨h1,h2,h3,h4,h5,h6,h7,h8,h9,h10,h11⟩:=hu
     obtain ⟨y2,cs,x,e5,hi5,hv5⟩:=h8 (hD 4 (by simp) rfl)
     obtain ⟨-,-,-,-,cs',x',e6,hc6⟩:=h9 (hD 8 (by simp) rfl)
     obtain ⟨A',c',B',d',C',e',b',o',s',e1q,-⟩:=hv5.reads
     injection e1q with e1q
     rw [e5] at e6
     injection e6 with e6
     simp only [Array.mk.injEq,List.cons.injEq,Value.agg.injEq,and_true] at e6
     obtain ⟨e6,-⟩:=e6
     subst e6
     subst e1q
     have HR:=hid (show Pi w w2.1.size v g A l cap n y2 uf from ⟨by omega,hi5,A',c',B',d',C',e',b',o',s',hc6,h3,hv5.mono (by omega),h1,h2⟩)
     clear h1 h2 h3 h4 h5 h6 h7 h8 h9 h10 h11 hi5 hv5 hc6 e4 e5 e0 e2 e3 e8 hD
     clear HK HB HVO SO GO HZ h6 k6 f6 f7
     go_simp
     go_wp2_with fail
     go_roundw
     case rel=>exact ⟨n,y2,by go_num,HR.out⟩
     case measure=>simp [intOf]

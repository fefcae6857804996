import Derived.Test.YteoijmejhdocdaaGreatDoorV06
namespace Go.Proofs.YteoijmejhdocdaaGreatDoor.Mx
open Go.ChangeShapes Go.WideShapes Go.ChangeAt Go.RowKit
set_option linter.unusedVariables false
open Go.Lib (hid)
open Go.Proofs.Tryz
set_option maxRecDepth 20000
set_option maxHeartbeats 64000000
open Value renaming int → O, slice → ψ, bool → φ, agg → σ
open IntKind renaming i64 → U
open Ending renaming returned → τ
instance:Inhabited Tru:=⟨⟨0,0,0,0,0,0,0,false⟩⟩
def truV (t:Tru):List Value:=[O U t.clock,O U t.epoch,O U t.cursor,O U t.read,O U t.written,O U t.nread,O U t.nwritten,φ t.failed]
theorem AD (t:Tru):(truV t).length = 8:=rfl
def ceV (c:Ce):List Value:=[O U c.1,O U c.2]
theorem Au (c:Ce):(ceV c).length = 2:=rfl
abbrev Trs (w:World) (B:Nat) (A:Option Addr) (L:List Tru):Prop:=Sls truV 8 w B A L
abbrev Cls (w:World) (B:Nat) (A:Option Addr) (L:List Ce):Prop:=Sls ceV 2 w B A L
abbrev Bl (w:World) (base:Nat) (v:Value) (L:List Tru):Prop:=SRow truV 8 94 w base v L
abbrev Bv (w:World) (base:Nat) (v:Value) (L:List Ce):Prop:=SRow ceV 2 118 w base v L
theorem IG:(prog.info? 94).map (fun i=>(i.zero,i.size,i.bytes)) = some (some (σ #[O U 0,O U 0,O U 0,O U 0,O U 0,O U 0,O U 0,φ false]),8,64):=by kernel_rfl
theorem Dp:(prog.info? 118).map (fun i=>(i.zero,i.size,i.bytes)) = some (some (σ #[O U 0,O U 0]),2,16):=by kernel_rfl
theorem KL (L:List Tru):∀ u ∈ Af truV L,u.oneCell' = true:=by
 intro u hu
 unfold Af at hu
 obtain ⟨t,_,h⟩:=List.mem_flatMap.1 hu
 simp [truV] at h
 rcases h with rfl | rfl | rfl | rfl | rfl | rfl | rfl | rfl <;> rfl
theorem DW (L:List Ce):∀ u ∈ Af ceV L,u.oneCell' = true:=by
 intro u hu
 unfold Af at hu
 obtain ⟨t,_,h⟩:=List.mem_flatMap.1 hu
 simp [ceV] at h
 rcases h with rfl | rfl <;> rfl
def Rp (b:World) (L:List Tru) (e:Ending) (w':World):Prop:=∃ v,e = τ v /\ Bl w' b.1.size v L /\ Below b.1.size b w'
theorem Em (A:Option Addr) (L:List Tru) (cap:Nat) (w:World) (hn:L.length <= 1048576) (hA:Trs w w.1.size A L):
    Calls prog 151 #[ψ A L.length cap] w (Rp w L):=by
 have HB:=hid ((Below.refl w.1.size w).alloc (lr _) (.cells #[] 94))
 have HA:=hid ((hA.grow HB.out).news AD (by omega))
 have HR:=hid (SRow.made (enc:=truV) (n:=8) (T:=94) w (lr _))
 have hl:(Af truV L).length = L.length * 8:=Ak AD
 have h1:=KL L
 clear hA
 go_enter func151,ntmps151
 go_wp2_with (at_builtin;refine Cc rfl _ _ 27 rfl w.1.size 94 8 64 0 (σ #[O U 0,O U 0,O U 0,O U 0,O U 0,O U 0,O U 0,φ false]) (ψ (some ⟨w.1.size,0,none⟩) 0 0) [] A L.length cap (Af truV L) underlying27 IG rfl (by omega) rfl HR.out rfl hl HA.out h1 (by unfold maxLen;omega) (by omega) (by simp) ?_)
 intro v' w' hown hg _
 have hb:Below w.1.size w w':=bgb HB.out (g:=w.1.size) (by simpa [Value.ownBlock] using hg) (by simp) (lr _)
 go_wp2_with fail
 go_ret
 exact ⟨_,rfl,hown,hb⟩
theorem EC.up {l:List Int} {x r:Int} (h:EC l x r) (hr:0 <= r):∃ i:Nat,r = i /\ i < l.length /\ upTo l i <= x /\ x < upTo l (i + 1):=by
 rcases h with ⟨i,hi,rfl,h0,h1⟩ | ⟨rfl,_⟩
 ·exact ⟨i,rfl,hi,h0,h1⟩
 ·omega
theorem Et {key x:Int} {l:List Int} (h:0 <= Am key l x):∃ i:Nat,Am key l x = i /\ i < l.length /\ Ay key l /\ 0 <= x /\ upTo l i <= x /\ x < upTo l (i + 1):=by
 by_cases hp:Ay key l /\ 0 <= x
 ·have hr:EC l x (Am key l x):=by
    unfold Am;rw [if_pos hp]
    exact Hq l.length 0 (by omega) (by rw [DS];exact hp.2)
  obtain ⟨i,e,hi,h0,h1⟩:=hr.up h
  exact ⟨i,e,hi,hp.1,hp.2,h0,h1⟩
 ·rw [GN hp] at h;omega
noncomputable def DC (key:Int) (l:List Int) (cursor x:Int):Bool:=decide (0 <= Am key l x) && decide (x - Ad key l (Am key l x) < cursor)
theorem Jf (key x:Int) (A:Option Addr) (l:List Int) (cap:Nat) (t0 t1 t2 t3 t4 t5 t6:Int) (t7:Bool) (w:World) (hn:l.length <= maxLen) (hcap:l.length <= cap) (hA:Ints w U w.1.size A l) (hx:I64 x):
    Calls prog 200 #[σ #[O U key,ψ A l.length cap],σ #[O U t0,O U t1,O U t2,O U t3,O U t4,O U t5,O U t6,φ t7],O U x] w fun e w'=>e = τ (φ (DC key l t2 x)) /\ Below w.1.size w w':=by
 have k0:=((Kept.refl w).new 26 #[O U key,ψ A l.length cap]).new 94 #[O U t0,O U t1,O U t2,O U t3,O U t4,O U t5,O U t6,φ t7]
 rw [show (w.alloc (.cells #[O U key,ψ A l.length cap] 26)).1.size = w.1.size + 1 by simp] at k0
 have R:=hid (fun (u:World) (hb:Below w.1.size w u)=>Be key x A l cap u hn hcap ((hA.below hb (lr _)).more hb.size))
 have F:=hid (fun (u:World) (r:Int) (hb:Below w.1.size w u)=>CI key r A l cap u hn hcap ((hA.below hb (lr _)).more hb.size))
 have K0:=hid k0
 clear hA hn k0
 unfold DC
 by_cases hr:0 <= Am key l x
 have z_1:=trivial;rotate_left;have z_2:=trivial;rotate_left
 all_goals
  first
   | guard_hyp z_1
     obtain ⟨i,e,hi,hp,hx0,hu0,hu1⟩:=Et hr
     have hb:=Dl hp.2.2.1 (show i <= l.length by omega)
     rw [e] at R |-
     rw [Cs hp hi]
     have FI:=hid (fun u hb=>F.out u i hb)
     rw [Cs hp hi] at FI
     have hx1:=hx.2
     have hi0:(0:Int) <= i:=by omega
     have hwr:IntKind.i64.wrap (x - upTo l i) = x - upTo l i:=IntWalk.i64_in _ (by omega)
     rw [decide_eq_true hi0,Bool.true_and]
     generalize upTo l i = f at FI hwr
     clear hr e hp hu0 hu1 hb F hx hx0 hx1
   | have hr':Am key l x < 0:=by omega
     have hr2:(Am key l x:Int) <= -1:=by omega
     have hd:decide (0 <= Am key l x) = false:=decide_eq_false hr
     rw [hd,Bool.false_and]
     generalize Am key l x = r at R hd hr'
     clear hr hr2 hr' F
  go_enter func200,ntmps200
  go_wp2_with fail
  refine (R.out _ K0.out.1).mono ?_;rintro e w1 ⟨rfl,b1⟩
  have k1:=(K0.out.below b1).drew
  first
   | guard_hyp z_1
     have P1:=hid (fun (u:World) (h:Kept w [(w.1.size + 1,94,#[O U t0,O U t1,O U t2,O U t3,O U t4,O U t5,O U t6,φ t7]),(w.1.size,26,#[O U key,ψ A l.length cap])] u)=>(FI.out u h.1).mono (fun e w' ⟨he,hb⟩=>(⟨he,h.below hb⟩:_ /\ Kept w [(w.1.size + 1,94,#[O U t0,O U t1,O U t2,O U t3,O U t4,O U t5,O U t6,φ t7]),(w.1.size,26,#[O U key,ψ A l.length cap])] w')))
     clear b1 R FI K0
   | clear b1 R K0
  go_upto_region 2 with fail
  refine Aw (C:=fun u=>Kept w [(w.1.size + 1,94,#[O U t0,O U t1,O U t2,O U t3,O U t4,O U t5,O U t6,φ t7]),(w.1.size,26,#[O U key,ψ A l.length cap])] u) (by kernel_rfl) (by kernel_rfl) k1 ?_
  first
   | guard_hyp z_1
     iterate 13 (first
      | go_big_quiet_skip
      | (go_big_quiet_want
         go_big_quiet_op
         first
          | go_big_quiet_on
          | (apply Exists.intro
             refine ⟨fun u hu=>?_,?_⟩
             ·first
                | with_reducible rfl
                | (go_at_call 132;exact P1.out u hu)
                | (have e0:=hu.cell (p:=w.1.size) (t:=26) (cs:=#[O U key,ψ A l.length cap]) (by simp) 0;have e1:=hu.cell (p:=w.1.size) (t:=26) (cs:=#[O U key,ψ A l.length cap]) (by simp) 1;have e2:=hu.cell (p:=w.1.size + 1) (t:=94) (cs:=#[O U t0,O U t1,O U t2,O U t3,O U t4,O U t5,O U t6,φ t7]) (by simp) 2;simp only [List.getElem?_toArray,List.getElem?_cons_zero,List.getElem?_cons_succ] at e0 e1 e2;go_simp;first | done | with_reducible rfl)
             go_big_quiet_on)))
   | iterate 13 (first
       | go_big_quiet_skip
       | (go_big_quiet_want
          go_big_quiet_op
          first
           | go_big_quiet_on
           | (apply Exists.intro
              refine ⟨fun u hu=>?_,?_⟩
              ·first
                 | with_reducible rfl
                 | (have e0:=hu.cell (p:=w.1.size) (t:=26) (cs:=#[O U key,ψ A l.length cap]) (by simp) 0;have e1:=hu.cell (p:=w.1.size) (t:=26) (cs:=#[O U key,ψ A l.length cap]) (by simp) 1;have e2:=hu.cell (p:=w.1.size + 1) (t:=94) (cs:=#[O U t0,O U t1,O U t2,O U t3,O U t4,O U t5,O U t6,φ t7]) (by simp) 2;simp only [List.getElem?_toArray,List.getElem?_cons_zero,List.getElem?_cons_succ] at e0 e1 e2;go_simp;first | done | with_reducible rfl)
              go_big_quiet_on)))
  refine wpQuiet_nil ?_
  intro wz hz
  go_wp2_with fail
  go_ret
  exact ⟨rfl,hz.1⟩
def Oq (w:World) (b off:Nat) (t:Tru):Prop:=
 w.cell? ⟨b,off,none⟩ = some (O U t.clock) /\ w.cell? ⟨b,off + 1,none⟩ = some (O U t.epoch) /\ w.cell? ⟨b,off + 2,none⟩ = some (O U t.cursor) /\ w.cell? ⟨b,off + 3,none⟩ = some (O U t.read) /\
 w.cell? ⟨b,off + 4,none⟩ = some (O U t.written) /\ w.cell? ⟨b,off + 5,none⟩ = some (O U t.nread) /\ w.cell? ⟨b,off + 6,none⟩ = some (O U t.nwritten) /\ w.cell? ⟨b,off + 7,none⟩ = some (φ t.failed)
theorem Oq.below {w u:World} {B b off:Nat} {t:Tru} (h:Oq w b off t) (hb:Below B w u) (hlt:b < B):Oq u b off t:=by
 obtain ⟨c0,c1,c2,c3,c4,c5,c6,c7⟩:=h
 have f:=fun o=>hb.cell (p:=⟨b,o,none⟩) hlt
 exact ⟨(f _).trans c0,(f _).trans c1,(f _).trans c2,(f _).trans c3,(f _).trans c4,(f _).trans c5,(f _).trans c6,(f _).trans c7⟩
theorem Trs.at_ {w:World} {B:Nat} {A:Option Addr} {L:List Tru} {k:Nat} (h:Trs w B A L) (hk:k < L.length):∃ b off,A = some ⟨b,off,none⟩ /\ b < B /\ Oq w b (off + k * 8) (L.getD k default):=by
 obtain ⟨b,off,e,hb,hc⟩:=h k hk
 exact ⟨b,off,e,hb,hc 0 (by omega),hc 1 (by omega),hc 2 (by omega),hc 3 (by omega),hc 4 (by omega),hc 5 (by omega),hc 6 (by omega),hc 7 (by omega)⟩
def Ba (key:Int) (l:List Int) (L:List Tru):Prop:=Ay key l /\ L.length = l.length /\ ∀ i,i < L.length -> Bk key l i (L.getD i default)
open Classical in
noncomputable def Dj (key:Int) (l:List Int) (L:List Tru):Bool:=decide (Ba key l L)
open Classical in
theorem DQ {key:Int} {l:List Int} {L:List Tru} (h:Ba key l L):Dj key l L = true:=by unfold Dj;exact decide_eq_true h
open Classical in
theorem CX {key:Int} {l:List Int} {L:List Tru} (h:¬ Ba key l L):Dj key l L = false:=by unfold Dj;exact decide_eq_false h
def Nm (key:Int) (l:List Int) (L:List Tru) (k:Nat):Prop:=∀ i,i < k -> Bk key l i (L.getD i default)
theorem Fg (key:Int) (A C:Option Addr) (l:List Int) (cap:Nat) (L:List Tru) (cap2:Nat) (w:World) (hn:l.length <= maxLen) (hA:Ints w U w.1.size A l) (hN:L.length <= maxLen) (hC:Trs w w.1.size C L):
    Calls prog 79 #[σ #[O U key,ψ A l.length cap],ψ C L.length cap2] w fun e w'=>e = τ (φ (Dj key l L)) /\ Below w.1.size w w':=by
 have K0:=hid (show Kept w [(w.1.size,26,#[O U key,ψ A l.length cap])] _ from (Kept.refl w).put1 _ _ #[O U key,ψ A l.length cap] rfl)
 have PO:=hid (fun (u:World) (hb:Below w.1.size w u)=>AW key A l cap u hn ((hA.below hb (lr _)).more hb.size))
 have TO:=hid (fun (t:Tru) (x:Int) (u:World) (hb:Below w.1.size w u)=>AX key x A l cap t.clock t.epoch t.cursor t.read t.written t.nread t.nwritten t.failed u hn ((hA.below hb (lr _)).more hb.size))
 have HC:=hid hC
 have hm:=hN
 have hm2:=hn
 unfold maxLen at hm hm2
 clear hA hC hN hn
 go_enter func79,ntmps79
 go_wp2_with fail
 go_loopw [5] (fun i wr=>∃ k:Nat,k <= L.length /\ i = O U k /\ Nm key l L k /\ Kept w [(w.1.size,26,#[O U key,ψ A l.length cap])] wr) (fun i _=>L.length - (intOf i).toNat)
 case atStart=>exact ⟨0,Nat.zero_le _,rfl,fun i hi=>absurd hi (by omega),K0.out⟩
 case round=>
  obtain ⟨k,hk,rfl,hup,hz⟩:=hrel
  have HU:=hid hup
  clear hup
  by_cases hlt:k < L.length
  ·obtain ⟨b,off,rfl,hb,hc⟩:=HC.out.at_ hlt
   have hlt':(k:Int) < L.length:=by omega
   have hk0:(0:Int) <= k:=by omega
   have TB:=hid (TO.out (L.getD k default) k)
   by_cases hok:Bk key l k (L.getD k default)
   have z_1:=trivial;rotate_left;have z_2:=trivial;rotate_left
   all_goals
    first
     | guard_hyp z_1
       have NX:=hid (show Nm key l L (k + 1) from fun i hi=>by
        rcases Nat.lt_or_ge i k with h | h
        ·exact HU.out i h
        ·obtain rfl:i = k:=by omega
         exact hok)
       rw [show (⟨(L.getD k default).clock,(L.getD k default).epoch,(L.getD k default).cursor,(L.getD k default).read,(L.getD k default).written,(L.getD k default).nread,(L.getD k default).nwritten,(L.getD k default).failed⟩:Tru) = L.getD k default from rfl,Co hok] at TB
     | rw [show (⟨(L.getD k default).clock,(L.getD k default).epoch,(L.getD k default).cursor,(L.getD k default).read,(L.getD k default).written,(L.getD k default).nread,(L.getD k default).nwritten,(L.getD k default).failed⟩:Tru) = L.getD k default from rfl,CD hok] at TB
       have HX:=hid (CX (l:=l) (L:=L) (key:=key) (fun h=>hok (h.2.2 k hlt)))
    clear hok HU
    generalize L.getD k default = t at hc TB
    go_upto_region 4 with fail
    refine Aw (C:=fun u=>Kept w [(w.1.size,26,#[O U key,ψ A l.length cap])] u) (by kernel_rfl) (by kernel_rfl) hz.drew ?_
    iterate 8 (first
     | go_big_quiet_skip
     | (go_big_quiet_want
        go_big_quiet_op
        first
         | go_big_quiet_on
         | (apply Exists.intro
            refine ⟨fun u hu=>?_,?_⟩
            ·first
               | with_reducible rfl
               | (go_at_call 160;exact (TB.out u hu.1).mono fun e w' h=>⟨h.1,hu.below h.2⟩)
               | (obtain ⟨X0,Y0,-⟩:=hu.rd;obtain ⟨c0,c1,c2,c3,c4,c5,c6,c7⟩:=hc.below hu.1 hb;go_simp;first | done | with_reducible rfl)
            go_big_quiet_on)))
    refine wpQuiet_nil ?_
    intro u4 hz4
    go_wp2_with fail
    first
     | guard_hyp z_1
       go_roundw
       case rel=>exact ⟨k + 1,by omega,by go_num,NX.out,hz4⟩
       case measure=>simp [intOf];omega
     | go_ret
       exact ⟨by rw [HX.out];rfl,hz4.1⟩
  ·have hk':k = L.length:=by omega
   have e1:(k:Int) = L.length:=by omega
   subst hk'
   by_cases hp:Ay key l
   ·have PB:=hid (fun u hb=>PO.out u hb)
    rw [CZ hp] at PB
    by_cases hln:L.length = l.length
    have z_3:=trivial;rotate_left;have z_4:=trivial;rotate_left
    all_goals
     first
      | guard_hyp z_3
        have hbl:((L.length:Int) == (l.length:Int)) = true:=beq_iff_eq.2 (by omega)
        have hbn:(L.length == l.length) = true:=beq_iff_eq.2 hln
        have HX:=hid (DQ (show Ba key l L from ⟨hp,hln,HU.out⟩))
      | have hbl:((L.length:Int) == (l.length:Int)) = false:=beq_false_of_ne (by omega)
        have hbn:(L.length == l.length) = false:=beq_false_of_ne hln
        have HX:=hid (CX (show ¬ Ba key l L from fun h=>hln h.2.1))
     clear hln hp
     obtain ⟨X0,Y0,-⟩:=hz.rd
     go_wp2_with fail
     refine (PB.out _ hz.1).mono ?_;rintro e w1 ⟨rfl,b1⟩
     have h1:=hz.below b1
     clear b1 hz X0 Y0
     obtain ⟨X0,Y0,-⟩:=h1.rd
     go_wp2_with fail
     go_ret
     exact ⟨by rw [HX.out];rfl,h1.1⟩
   ·have PB:=hid (fun u hb=>PO.out u hb)
    rw [Dg hp] at PB
    have HX:=hid (CX (show ¬ Ba key l L from fun h=>hp h.1))
    clear hp
    obtain ⟨X0,Y0,-⟩:=hz.rd
    go_wp2_with fail
    refine (PB.out _ hz.1).mono ?_;rintro e w1 ⟨rfl,b1⟩
    have h1:=hz.below b1
    clear b1 hz X0 Y0
    go_wp2_with fail
    go_ret
    exact ⟨by rw [HX.out];rfl,h1.1⟩
def Cd (b:Bool):Int:=if b then 1 else 0
def Bh (t:Tru):List Int:=[t.clock,t.epoch,t.cursor,t.read,t.written,t.nread,t.nwritten,Cd t.failed]
def IC (count:Int) (L:List Tru):List Int:=[3,count,(L.length:Int)] ++ L.flatMap Bh
noncomputable def Fa (key:Int) (l:List Int) (count:Int) (L:List Tru):Int:=
 open Classical in if Ay key l then Df key (IC count L) else -1
def TruI (t:Tru):Prop:=I64 t.clock /\ I64 t.epoch /\ I64 t.cursor /\ I64 t.read /\ I64 t.written /\ I64 t.nread /\ I64 t.nwritten
def Cx (L:List Tru):Prop:=∀ i,i < L.length -> TruI (L.getD i default)
theorem Rh (b:Bool):I64 (Cd b):=by cases b <;> (unfold Cd I64;simp)
theorem I64s.append {l m:List Int} (h:I64s l) (h2:I64s m):I64s (l ++ m):=by
 intro i hi
 rw [List.getD_eq_getElem?_getD]
 rcases Nat.lt_or_ge i l.length with hl | hl
 ·rw [List.getElem?_append_left hl,<- List.getD_eq_getElem?_getD];exact h i hl
 ·rw [List.getElem?_append_right hl,<- List.getD_eq_getElem?_getD];exact h2 _ (by rw [List.length_append] at hi;omega)
theorem Kq {t:Tru} (h:TruI t):I64s (Bh t):=by
 obtain ⟨a,b,c,d,e,f,g⟩:=h
 have hf:=Rh t.failed
 exact I64s.cons a.1 a.2 (I64s.cons b.1 b.2 (I64s.cons c.1 c.2 (I64s.cons d.1 d.2 (I64s.cons e.1 e.2 (I64s.cons f.1 f.2 (I64s.cons g.1 g.2 (I64s.cons hf.1 hf.2 I64s.nil)))))))
theorem Ic {L:List Tru} {k:Nat} (h:k < L.length):(L.take (k + 1)).flatMap Bh = (L.take k).flatMap Bh ++ Bh (L.getD k default):=by
 rw [List.take_succ_eq_append_getElem h,List.flatMap_append,List.getD_eq_getElem?_getD,List.getElem?_eq_getElem h];simp
theorem Gk (L:List Tru):(L.flatMap Bh).length = L.length * 8:=by
 induction L with
 | nil=>rfl
 | cons t L ih=>rw [List.flatMap_cons,List.length_append,ih,List.length_cons];show 8 + _ = _;omega
theorem Row.below {w w':World} {base t:Nat} {v:Value} {zs:List Int} (h:Row w base t v zs) (hb:Below w.1.size w w'):Row w' base t v zs:=
 ⟨h.1.kept (BV hb none) (by cases e:v.ownBlock with | none=>exact .inl rfl | some k=>exact .inr (by intro e2;cases e2)),h.2⟩
theorem Kept.grownO {b w w':World} {L:List Box} {r:Option Nat} (h:Kept b L w) (hg:w.grownBy w' r) (hr:∀ k,r = some k -> b.1.size <= k /\ ∀ x ∈ L,x.1 ≠ k):Kept b L w':=
 ⟨h.1.trans ((EE (B:=b.1.size) hg h.1.size (fun k hk=>(hr k hk).1))),fun x hx=>⟨(h.2 x hx).1,(h.2 x hx).2.grown hg (by intro e;exact (hr x.1 e.symm).2 x hx rfl)⟩⟩
theorem Row.lit (w:World) (base:Nat) (zs:List Int) (hb:base <= w.1.size) (hm:zs.length <= maxLen) (hi:I64s zs):Row (w.alloc (.cells (zs.map (Value.int U)).toArray 2)) base 2 (ψ (some ⟨w.1.size,0,none⟩) zs.length zs.length) zs:=
 ⟨⟨by simp,.inr ⟨w.1.size,zs.length,(zs.map (Value.int U)).toArray,rfl,hb,heap_alloc_last w _,lr _,hm,by simp,by simp only [Nat.mul_one];rw [List.take_of_length_le (by simp)]⟩⟩,hi⟩
theorem MV (b:Bool) (w:World):Calls prog 215 #[φ b] w fun e w'=>e = τ (O U (Cd b)) /\ w = w':=by
 cases b
 all_goals
  go_enter func215,ntmps215
  go_wp2
  go_ret
  exact ⟨rfl,rfl⟩
def MacC (b:World) (L:List Box) (base:Nat) (p:Value) (zs ys:List Int) (cs:Array Value) (D:Nat -> Bool) (γ:Nat -> Value) (u:World):Prop:=
 Kept b L u /\ base <= u.1.size /\ (D 19 = false -> Row u base 2 p zs) /\ (D 18 = true -> D 19 = false -> ∃ g,γ 18 = ψ (some ⟨g,0,none⟩) 8 8 /\ Aa u g 2 cs) /\ (D 19 = true -> Row u base 2 (γ 19) (zs ++ ys)) /\ (D 19 = true -> D 18 = true)
theorem MacC.loc {b u:World} {L:List Box} {base:Nat} {p:Value} {zs ys:List Int} {cs:Array Value} {D:Nat -> Bool} {γ γ':Nat -> Value} (ha:∀ i,D i = true -> γ i = γ' i) (h:MacC b L base p zs ys cs D γ u):MacC b L base p zs ys cs D γ' u:=by
 obtain ⟨h1,h2,h3,h4,h5,h6⟩:=h
 refine ⟨h1,h2,h3,fun d e=>?_,fun d=>?_,h6⟩
 ·rw [<- ha _ d];exact h4 d e
 ·rw [<- ha _ d];exact h5 d
theorem Hu (key count:Int) (A C:Option Addr) (l:List Int) (cap:Nat) (L:List Tru) (cap2:Nat) (w:World) (hn:l.length <= maxLen) (hA:Ints w U w.1.size A l) (hN:L.length <= 1048576) (hC:Trs w w.1.size C L) (hI:Cx L) (hc0:I64 count):
    Calls prog 152 #[σ #[O U key,ψ A l.length cap],O U count,ψ C L.length cap2] w fun e w'=>e = τ (O U (Fa key l count L)) /\ Below w.1.size w w':=by
 have K0:=hid (show Kept w [(w.1.size,26,#[O U key,ψ A l.length cap])] _ from (Kept.refl w).put1 _ _ #[O U key,ψ A l.length cap] rfl)
 have PO:=hid (fun (u:World) (hb:Below w.1.size w u)=>AW key A l cap u hn ((hA.below hb (lr _)).more hb.size))
 have HC:=hid hC
 have HI:=hid hI
 unfold Fa
 clear hA hC hn hI
 by_cases hp:Ay key l
 ·rw [if_pos hp]
  rw [CZ hp] at PO
  clear hp
  go_enter func152,ntmps152
  go_wp2_with fail
  refine (PO.out _ K0.out.1).mono ?_;rintro e w1 ⟨rfl,b1⟩
  have h1:=K0.out.below b1
  have H1:=hid h1
  clear b1 K0
  obtain ⟨X0,Y0,-⟩:=h1.rd
  have hs1:w.1.size + 1 <= w1.1.size:=h1.lt (x:=(w.1.size,26,#[O U key,ψ A l.length cap])) (by simp)
  have RW:=hid (Row.lit w1 (w.1.size + 1) [3,count,(L.length:Int)] hs1 (by simp [maxLen]) (I64s.cons (by omega) (by omega) (I64s.cons hc0.1 hc0.2 (I64s.cons (by omega) (by omega) I64s.nil))))
  clear h1 hc0
  go_wp2_with fail
  clear X0 Y0
  go_loopw [7,8] (fun p i wr=>∃ (k:Nat) (q:Value),q = p /\ k <= L.length /\ i = O U k /\ Row wr (w.1.size + 1) 2 p ([3,count,(L.length:Int)] ++ (L.take k).flatMap Bh) /\ Kept w [(w.1.size,26,#[O U key,ψ A l.length cap])] wr) (fun _ i _=>L.length - (intOf i).toNat)
  case atStart=>exact ⟨0,_,rfl,Nat.zero_le _,rfl,RW.out,H1.out.below ((Below.refl _ _).alloc (lr _) _)⟩
  case round=>
   obtain ⟨k,p,rfl,hk,rfl,hrow,hz⟩:=hrel
   by_cases hlt:k < L.length
   ·obtain ⟨b,off,rfl,hb,hc⟩:=HC.out.at_ hlt
    have hlt':(k:Int) < L.length:=by omega
    have hk0:(0:Int) <= k:=by omega
    have hti:=HI.out k hlt
    have HS:=hid (Ic hlt)
    have hln:=Gk (L.take k)
    rw [List.length_take,Nat.min_eq_left hk] at hln
    have HL:=hid hln
    clear hln
    generalize L.getD k default = t at hc hti HS
    generalize (L.take k).flatMap Bh = ms at hrow HS HL
    generalize hzs:[3,count,(L.length:Int)] ++ ms = zs at hrow
    have HZ:=hid hzs
    have hzl:zs.length = 3 + k * 8:=by rw [<- hzs,List.length_append,HL.out];rfl
    clear hzs
    have HZL:=hid hzl
    clear hzl
    have TI:=hid hti
    clear hti
    have hs2:w.1.size + 1 <= wr.1.size:=hz.lt (x:=(w.1.size,26,#[O U key,ψ A l.length cap])) (by simp)
    obtain ⟨c0,c1,c2,c3,c4,c5,c6,c7⟩:=hc.below hz.1 hb
    go_upto_region 8 with fail
    clear c0 c1 c2 c3 c4 c5 c6 c7
    have hne:∀ g,p.ownBlock = some g -> w.1.size + 1 <= g /\ g < wr.1.size:=fun g hg=>hrow.1.lt g hg
    have hz2:=hz.put1 wr.1.size 94 #[O U t.clock,O U t.epoch,O U t.cursor,O U t.read,O U t.written,O U t.nread,O U t.nwritten,φ t.failed] rfl
    have hr2:Row (wr.alloc (.cells #[O U t.clock,O U t.epoch,O U t.cursor,O U t.read,O U t.written,O U t.nread,O U t.nwritten,φ t.failed] 94)) (w.1.size + 1) 2 p zs:=hrow.below ((Below.refl _ _).alloc (lr _) _)
    have HM:=hid (show ∀ γ,MacC w [(wr.1.size,94,#[O U t.clock,O U t.epoch,O U t.cursor,O U t.read,O U t.written,O U t.nread,O U t.nwritten,φ t.failed]),(w.1.size,26,#[O U key,ψ A l.length cap])] (w.1.size + 1) p zs (Bh t) #[O U t.clock,O U t.epoch,O U t.cursor,O U t.read,O U t.written,O U t.nread,O U t.nwritten,O U (Cd t.failed)] (fun _=>false) γ (wr.alloc (.cells #[O U t.clock,O U t.epoch,O U t.cursor,O U t.read,O U t.written,O U t.nread,O U t.nwritten,φ t.failed] 94)).drew from fun γ=>⟨hz2.drew,by simp;omega,fun _=>⟨hr2.1.drew,hr2.2⟩,fun e=>(by cases e),fun e=>(by cases e),fun e=>(by cases e)⟩)
    clear hrow hz hz2 hr2
    have hlf:L.length <= 1048576:=hN
    refine Ao [false,false,false,false,false,false,false,false,false,false,false,false,false,false,false,false,false,true,true,true,false] (fun i v=>(i = 17 -> v = O U (Cd t.failed)) /\ (i = 18 -> ∃ g:Nat,v = ψ (some ⟨g,0,none⟩) 8 8)) (fun D γ u=>MacC w [(wr.1.size,94,#[O U t.clock,O U t.epoch,O U t.cursor,O U t.read,O U t.written,O U t.nread,O U t.nwritten,φ t.failed]),(w.1.size,26,#[O U key,ψ A l.length cap])] (w.1.size + 1) p zs (Bh t) #[O U t.clock,O U t.epoch,O U t.cursor,O U t.read,O U t.written,O U t.nread,O U t.nwritten,O U (Cd t.failed)] D γ u) (by kernel_rfl) (by kernel_rfl) (fun γ=>by kernel_rfl) (fun D γ γ' w ha h=>h.loc ha) (fun i=>?inh) HM.out (fun γ hγ=>?_)
    case inh=>
     by_cases h1:i = 17
     ·subst h1;exact ⟨_,fun _=>rfl,fun e=>by cases e⟩
     ·exact ⟨ψ (some ⟨0,0,none⟩) 8 8,fun e=>absurd e h1,fun _=>⟨0,rfl⟩⟩
    have g17:γ 17 = O U (Cd t.failed):=(hγ 17 rfl).1 rfl
    obtain ⟨gb,g18⟩:=(hγ 18 rfl).2 rfl
    obtain ⟨vv,g19⟩:∃ v,v = γ 19:=⟨_,rfl⟩
    apply Exists.intro
    refine ⟨fun D=>?_,?_,?_⟩
    ·simp only [AP,cond_true,cond_false,Nat.reduceAdd,g17,g18,<- g19]
     iterate 21 (first
      | go_big_quiet_skip
      | (go_big_quiet_want
         go_big_quiet_op
         first
          | go_big_quiet_on
          | (apply Exists.intro
             refine ⟨fun u hu=>?_,?_⟩
             ·first
                | with_reducible rfl
                | (obtain ⟨X0,Y0,X1,Y1,-⟩:=hu.1.rd;go_simp;first | done | with_reducible rfl)
             go_big_quiet_on)))
     exact wpQuiet_nil rfl
    ·simp only [AY,Nat.reduceAdd]
     refine ⟨fun D u hD hd hu=>?_,fun D u hD hd hu=>?_,fun D u hD hd hu=>?_,trivial⟩
     ·refine As ((MV t.failed u).mono fun e w' ⟨he,hw⟩=>⟨_,he,⟨fun _=>rfl,fun e=>by cases e⟩,?_⟩) rfl rfl rfl rfl (by kernel_rfl)
      subst hw
      exact MacC.loc (γ:=γ) (D:=setD D 17) (fun i hi=>by unfold setG;by_cases h:i = 17;rotate_left;rw [if_neg h];subst h;rw [if_pos rfl];exact g17) ⟨hu.1,hu.2.1,fun e=>hu.2.2.1 (by simpa [setD] using e),fun e1 e2=>hu.2.2.2.1 (by simpa [setD] using e1) (by simpa [setD] using e2),fun e=>hu.2.2.2.2.1 (by simpa [setD] using e),fun e=>by have:=hu.2.2.2.2.2 (by simpa [setD] using e);simp [setD,this]⟩
     ·have e2:D 19 = false:=by
        cases h19:D 19 with
        | false=>rfl
        | true=>have:=hu.2.2.2.2.2 h19;rw [hD] at this;cases this
      have hrow:=hu.2.2.1 e2
      refine GV 24 2 8 1 8 (O U 0) _ #[O U t.clock,O U t.epoch,O U t.cursor,O U t.read,O U t.written,O U t.nread,O U t.nwritten,O U (Cd t.failed)] rfl underlying24 GD (by omega) (by omega) (by simp [Instr.fill,go_sem]) ⟨⟨fun e=>(by cases e),fun _=>⟨_,rfl⟩⟩,?_⟩
      have ha:Below u.1.size u (u.alloc (.cells #[O U t.clock,O U t.epoch,O U t.cursor,O U t.read,O U t.written,O U t.nread,O U t.nwritten,O U (Cd t.failed)] 2)):=(Below.refl _ _).alloc (lr _) _
      exact ⟨hu.1.below ha,Nat.le_trans hu.2.1 ha.size,fun _=>hrow.below ha,fun _ _=>⟨_,by unfold setG;rw [if_pos rfl],Aa.new u 2 #[O U t.clock,O U t.epoch,O U t.cursor,O U t.read,O U t.written,O U t.nread,O U t.nwritten,O U (Cd t.failed)]⟩,fun e=>by (simp [setD,e2] at e),fun _=>by simp [setD]⟩
     ·have dk:=hd { on:=18,ground:=Ground.data } (by simp) rfl rfl
      obtain ⟨g0,e1,hcg⟩:=hu.2.2.2.1 dk hD
      obtain rfl:gb = g0:=by rw [g18] at e1;simpa using e1
      have hrow:=hu.2.2.1 hD
      have hnews:=World.news_of_block (w:=u) (B:=gb) (cs:=#[O U t.clock,O U t.epoch,O U t.cursor,O U t.read,O U t.written,O U t.nread,O U t.nwritten,O U (Cd t.failed)]) (t:=2) hcg
      refine Cr _ _ 24 rfl (w.1.size + 1) 2 1 8 zs.length (O U 0) p (zs.map (Value.int U)) (some ⟨gb,0,none⟩) 8 8 (#[O U t.clock,O U t.epoch,O U t.cursor,O U t.read,O U t.written,O U t.nread,O U t.nwritten,O U (Cd t.failed)]:Array Value).toList underlying24 GD rfl (by omega) rfl hrow.1 rfl rfl (fun j v hv=>⟨_,rfl,hnews j v hv⟩) (by intro v hv;simp at hv;rcases hv with rfl | rfl | rfl | rfl | rfl | rfl | rfl | rfl <;> rfl) (by rw [HZL.out];unfold maxLen;omega) (by rw [HZL.out];omega) hu.2.1 ?_
      intro v' w' hown hg _
      have hk2:=hu.1.grownO hg (fun g e=>⟨by have:=(hne g e).1;omega,by intro y hy;simp at hy;rcases hy with rfl | rfl <;> (have:=hne g e;simp;omega)⟩)
      exact ⟨⟨fun e=>(by cases e),fun e=>(by cases e)⟩,hk2,Nat.le_trans hu.2.1 hg.size,fun e=>by (simp [setD] at e),fun _ e=>by (simp [setD] at e),fun _=>⟨by unfold setG;rw [if_pos rfl,List.length_append,List.map_append];exact hown,I64s.append hrow.2 (Kq TI.out)⟩,fun _=>by simp [setD,dk]⟩
    ·intro D u hD hu
     have hrw:=hu.2.2.2.2.1 (hD 19 (by simp) rfl)
     rw [<- g19] at hrw
     have hkp:=hu.1.sub (L':=[(w.1.size,26,#[O U key,ψ A l.length cap])]) (by intro y hy;simp at hy |-;right;exact hy)
     clear hu hD
     go_wp2_with fail
     go_roundw
     case rel=>exact ⟨k + 1,_,rfl,by omega,by go_num,by have h:=hrw;rw [<- HZ.out] at h;rw [HS.out];simpa [List.append_assoc] using h,hkp⟩
     case measure=>simp [intOf];omega
   ·have hk':k = L.length:=by omega
    subst hk'
    have hr2:=hrow
    rw [List.take_length] at hr2
    obtain ⟨B,c,rfl,hI⟩:=hr2.reads
    have hlen:([3,count,(L.length:Int)] ++ L.flatMap Bh).length = 3 + L.length * 8:=by rw [List.length_append,Gk];rfl
    have MX:=hid (fun u hI=>FZ key B ([3,count,(L.length:Int)] ++ L.flatMap Bh) c wr.1.size u (by rw [hlen];unfold maxLen;omega) hI hr2.2)
    rw [show Df key ([3,count,(L.length:Int)] ++ L.flatMap Bh) = Df key (IC count L) from rfl] at MX
    have HIN:=hid hI
    have HZ:=hid hz
    have hne:¬ (L.length:Int) < L.length:=by omega
    obtain ⟨mx,hmx⟩:∃ m,m = Df key (IC count L):=⟨_,rfl⟩
    rw [<- hmx] at MX
    have HMX:=hid hmx
    clear hmx
    generalize ([3,count,(L.length:Int)] ++ L.flatMap Bh).length = zl at MX
    clear hrow hr2 hI
    obtain ⟨X0,Y0,-⟩:=hz.rd
    clear hz
    go_wp2_with fail
    refine (MX.out _ HIN.out).mono ?_;rintro e w2 ⟨rfl,rfl⟩
    go_wp2_with fail
    go_ret
    exact ⟨by rw [<- HMX.out];rfl,HZ.out.1⟩
 ·rw [if_neg hp]
  rw [Dg hp] at PO
  clear hp
  go_enter func152,ntmps152
  go_wp2_with fail
  refine (PO.out _ K0.out.1).mono ?_;rintro e w1 ⟨rfl,b1⟩
  have h1:=K0.out.below b1
  clear b1 K0
  go_wp2_with fail
  go_ret
  exact ⟨rfl,h1.1⟩

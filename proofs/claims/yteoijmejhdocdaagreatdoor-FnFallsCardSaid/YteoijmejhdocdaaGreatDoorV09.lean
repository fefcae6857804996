import Derived.Test.YteoijmejhdocdaaGreatDoorV08
namespace Go.Proofs.YteoijmejhdocdaaGreatDoor.Mx
open Go.ChangeShapes Go.WideShapes Go.ChangeAt Go.RowKit
set_option linter.unusedVariables false
open Go.Lib (hid)
open Go.Proofs.Tryz
set_option maxRecDepth 20000
set_option maxHeartbeats 64000000
open Value renaming int → O, slice → ψ, bool → φ, agg → σ
open IntKind renaming i64 → U
open Ending renaming returned → τ
noncomputable def Ho (key:Int) (l:List Int) (cnt:Int) (L:List Tru) (mac:Int):Bool:=Dj key l L && decide (0 <= cnt /\ cnt <= 10000) && decide (mac = Fa key l cnt L)
noncomputable def Fv (key:Int) (l:List Int) (cnt:Int) (L:List Tru) (mac:Int) (M:List Ce):Bool:=Ho key l cnt L mac && Dm key l M
noncomputable def fitB (key:Int) (l:List Int) (L:List Tru) (M:List Ce):Bool:=(decide (M.length = 0) || Dm key l M) && decide (L.length <= 4)
theorem JB (key:Int) (A:Option Addr) (l:List Int) (cap:Nat) (cnt:Int) (B:Option Addr) (L:List Tru) (tc:Nat) (mac:Int) (w:World) (hn:l.length <= maxLen) (hA:Ints w U w.1.size A l) (hN:L.length <= 1048576) (hB:Trs w w.1.size B L) (hI:Cx L) (hc0:I64 cnt):
    Calls prog 248 #[σ #[O U key,ψ A l.length cap],σ #[O U cnt,ψ B L.length tc,O U mac]] w fun e w'=>e = τ (φ (Ho key l cnt L mac)) /\ Below w.1.size w w':=by
 have K0:=hid (show Kept w [(w.1.size + 1,89,#[O U cnt,ψ B L.length tc,O U mac]),(w.1.size,26,#[O U key,ψ A l.length cap])] _ from (((Kept.refl w).put1 _ _ #[O U key,ψ A l.length cap] rfl).put1 _ _ #[O U cnt,ψ B L.length tc,O U mac] (by simp)))
 have TS:=hid (fun (u:World) (hb:Below w.1.size w u)=>Fg key A B l cap L tc u hn ((hA.below hb (lr _)).more hb.size) (by unfold maxLen;omega) ((hB.below hb (lr _)).more hb.size))
 have MC:=hid (fun (u:World) (hb:Below w.1.size w u)=>Hu key cnt A B l cap L tc u hn ((hA.below hb (lr _)).more hb.size) hN ((hB.below hb (lr _)).more hb.size) hI hc0)
 have IN:=hid (fun (u:World)=>KH cnt 0 10000 _ u rfl)
 clear hA hB hN hI hc0 hn
 unfold Ho
 generalize Dj key l L = ts at TS |-
 generalize Fa key l cnt L = mo at MC |-
 cases ts with
 | false=>
   rw [Bool.false_and,Bool.false_and]
   clear MC IN
   go_enter func248,ntmps248
   go_upto_region 1 with fail
   refine Aw (C:=fun u=>Kept w [(w.1.size + 1,89,#[O U cnt,ψ B L.length tc,O U mac]),(w.1.size,26,#[O U key,ψ A l.length cap])] u) (by kernel_rfl) (by kernel_rfl) (K0.out).drew ?_
   iterate 21 (first
    | go_big_quiet_skip
    | (go_big_quiet_want
       go_big_quiet_op
       first
        | go_big_quiet_on
        | (apply Exists.intro
           refine ⟨fun u hu=>?_,?_⟩
           ·first
              | with_reducible rfl
              | (go_at_call 79;exact (TS.out u hu.1).mono fun e w' h=>⟨h.1,hu.below h.2⟩)
              | (obtain ⟨X0,Y0,X1,Y1,-⟩:=hu.rd;go_simp;first | done | with_reducible rfl)
           go_big_quiet_on)))
   refine wpQuiet_nil ?_
   intro uq hq
   go_wp2_with fail
   go_ret
   exact ⟨rfl,hq.1⟩
 | true=>
   rw [Bool.true_and]
   by_cases hr:0 <= cnt /\ cnt <= 10000
   ·rw [decide_eq_true hr] at IN |-
    rw [Bool.true_and]
    clear hr
    by_cases hm:mac = mo
    have z_1:=trivial;rotate_left;have z_2:=trivial;rotate_left
    all_goals
     first
      | guard_hyp z_1
        have hb:(mac == mo) = true:=beq_iff_eq.2 hm
        rw [decide_eq_true hm]
      | have hb:(mac == mo) = false:=beq_false_of_ne hm
        rw [decide_eq_false hm]
     clear hm
     go_enter func248,ntmps248
     go_upto_region 1 with fail
     refine Aw (C:=fun u=>Kept w [(w.1.size + 1,89,#[O U cnt,ψ B L.length tc,O U mac]),(w.1.size,26,#[O U key,ψ A l.length cap])] u) (by kernel_rfl) (by kernel_rfl) (K0.out).drew ?_
     iterate 21 (first
      | go_big_quiet_skip
      | (go_big_quiet_want
         go_big_quiet_op
         first
          | go_big_quiet_on
          | (apply Exists.intro
             refine ⟨fun u hu=>?_,?_⟩
             ·first
                | with_reducible rfl
                | (go_at_call 79;exact (TS.out u hu.1).mono fun e w' h=>⟨h.1,hu.below h.2⟩)
                | (go_at_call 82;exact BI hu (IN.out u))
                | (go_at_call 152;exact (MC.out u hu.1).mono fun e w' h=>⟨h.1,hu.below h.2⟩)
                | (obtain ⟨X0,Y0,X1,Y1,-⟩:=hu.rd;go_simp;first | done | with_reducible rfl)
             go_big_quiet_on)))
     refine wpQuiet_nil ?_
     intro uq hq
     go_wp2_with fail
     go_ret
     exact ⟨rfl,hq.1⟩
   ·rw [decide_eq_false hr] at IN |-
    rw [Bool.false_and]
    clear hr MC
    go_enter func248,ntmps248
    go_upto_region 1 with fail
    refine Aw (C:=fun u=>Kept w [(w.1.size + 1,89,#[O U cnt,ψ B L.length tc,O U mac]),(w.1.size,26,#[O U key,ψ A l.length cap])] u) (by kernel_rfl) (by kernel_rfl) (K0.out).drew ?_
    iterate 21 (first
     | go_big_quiet_skip
     | (go_big_quiet_want
        go_big_quiet_op
        first
         | go_big_quiet_on
         | (apply Exists.intro
            refine ⟨fun u hu=>?_,?_⟩
            ·first
               | with_reducible rfl
               | (go_at_call 79;exact (TS.out u hu.1).mono fun e w' h=>⟨h.1,hu.below h.2⟩)
               | (go_at_call 82;exact BI hu (IN.out u))
               | (obtain ⟨X0,Y0,X1,Y1,-⟩:=hu.rd;go_simp;first | done | with_reducible rfl)
            go_big_quiet_on)))
    refine wpQuiet_nil ?_
    intro uq hq
    go_wp2_with fail
    go_ret
    exact ⟨rfl,hq.1⟩
theorem Js (key:Int) (A:Option Addr) (l:List Int) (cap:Nat) (cnt:Int) (B:Option Addr) (L:List Tru) (tc:Nat) (mac:Int) (C:Option Addr) (M:List Ce) (cc:Nat) (w:World) (hn:l.length <= maxLen) (hA:Ints w U w.1.size A l) (hN:L.length <= 1048576) (hB:Trs w w.1.size B L) (hI:Cx L) (hc0:I64 cnt) (hM:M.length <= 1048576) (hC:Cls w w.1.size C M):
    Calls prog 223 #[σ #[O U key,ψ A l.length cap],σ #[O U cnt,ψ B L.length tc,O U mac,ψ C M.length cc]] w fun e w'=>e = τ (φ (Fv key l cnt L mac M)) /\ Below w.1.size w w':=by
 have K0:=hid (show Kept w [(w.1.size + 1,91,#[O U cnt,ψ B L.length tc,O U mac,ψ C M.length cc]),(w.1.size,26,#[O U key,ψ A l.length cap])] _ from (((Kept.refl w).put1 _ _ #[O U key,ψ A l.length cap] rfl).put1 _ _ #[O U cnt,ψ B L.length tc,O U mac,ψ C M.length cc] (by simp)))
 have SO:=hid (fun (u:World) (hb:Below w.1.size w u)=>JB key A l cap cnt B L tc mac u hn ((hA.below hb (lr _)).more hb.size) hN ((hB.below hb (lr _)).more hb.size) hI hc0)
 have CL:=hid (fun (u:World) (hb:Below w.1.size w u)=>FD key A C l cap M cc u hn ((hA.below hb (lr _)).more hb.size) (by unfold maxLen;omega) ((hC.below hb (lr _)).more hb.size))
 clear hA hB hN hI hc0 hn hC hM
 unfold Fv
 generalize Ho key l cnt L mac = so at SO |-
 generalize Dm key l M = co at CL |-
 cases so with
 | false=>
   rw [Bool.false_and]
   clear CL
   go_enter func223,ntmps223
   go_wp2_with fail
   refine (SO.out _ K0.out.1).mono ?_;rintro e uz1 ⟨rfl,bz2⟩
   have hz3:=K0.out.below bz2
   clear bz2
   obtain ⟨X0,Y0,X1,Y1,-⟩:=hz3.rd
   go_wp2_with fail
   go_ret
   exact ⟨rfl,hz3.1⟩
 | true=>
   rw [Bool.true_and]
   go_enter func223,ntmps223
   go_wp2_with fail
   refine (SO.out _ K0.out.1).mono ?_;rintro e uz1 ⟨rfl,bz2⟩
   have hz3:=K0.out.below bz2
   clear bz2
   obtain ⟨X0,Y0,X1,Y1,-⟩:=hz3.rd
   go_wp2_with fail
   refine (CL.out _ hz3.1).mono ?_;rintro e uz4 ⟨rfl,bz5⟩
   have hz6:=hz3.below bz5
   clear bz5 hz3 X0 Y0 X1 Y1
   obtain ⟨X0,Y0,X1,Y1,-⟩:=hz6.rd
   go_wp2_with fail
   go_ret
   exact ⟨rfl,hz6.1⟩
theorem LF (key:Int) (A:Option Addr) (l:List Int) (cap:Nat) (cnt:Int) (B:Option Addr) (L:List Tru) (tc:Nat) (mac:Int) (C:Option Addr) (M:List Ce) (cc:Nat) (w:World) (hn:l.length <= maxLen) (hA:Ints w U w.1.size A l) (hN:L.length <= 1048576) (hM:M.length <= 1048576) (hC:Cls w w.1.size C M):
    Calls prog 81 #[σ #[O U key,ψ A l.length cap],σ #[O U cnt,ψ B L.length tc,O U mac,ψ C M.length cc]] w fun e w'=>e = τ (φ (fitB key l L M)) /\ Below w.1.size w w':=by
 have K0:=hid (show Kept w [(w.1.size + 1,91,#[O U cnt,ψ B L.length tc,O U mac,ψ C M.length cc]),(w.1.size,26,#[O U key,ψ A l.length cap])] _ from (((Kept.refl w).put1 _ _ #[O U key,ψ A l.length cap] rfl).put1 _ _ #[O U cnt,ψ B L.length tc,O U mac,ψ C M.length cc] (by simp)))
 have CL:=hid (fun (u:World) (hb:Below w.1.size w u)=>FD key A C l cap M cc u hn ((hA.below hb (lr _)).more hb.size) (by unfold maxLen;omega) ((hC.below hb (lr _)).more hb.size))
 clear hA hn hC
 unfold fitB
 generalize Dm key l M = co at CL |-
 by_cases hz:M.length = 0
 ·rw [decide_eq_true hz,Bool.true_or,Bool.true_and]
  have b0:((M.length:Int) == 0) = true:=beq_iff_eq.2 (by omega)
  have b1:(M.length == 0) = true:=beq_iff_eq.2 hz
  clear hz CL
  by_cases h4:L.length <= 4
  ·have d4:decide ((L.length:Int) <= 4) = true:=decide_eq_true (by omega)
   rw [decide_eq_true h4]
   clear h4
   go_enter func81,ntmps81
   go_wp2_with fail
   go_ret
   exact ⟨rfl,K0.out.1⟩
  ·have d4:decide ((L.length:Int) <= 4) = false:=decide_eq_false (by omega)
   rw [decide_eq_false h4]
   clear h4
   go_enter func81,ntmps81
   go_wp2_with fail
   go_ret
   exact ⟨rfl,K0.out.1⟩
 ·rw [decide_eq_false hz,Bool.false_or]
  have b0:((M.length:Int) == 0) = false:=beq_false_of_ne (by omega)
  have b1:(M.length == 0) = false:=beq_false_of_ne hz
  clear hz
  cases co with
  | false=>
    rw [Bool.false_and]
    go_enter func81,ntmps81
    go_wp2_with fail
    refine (CL.out _ K0.out.1).mono ?_;rintro e uz1 ⟨rfl,bz2⟩
    have hz3:=K0.out.below bz2
    clear bz2
    obtain ⟨X0,Y0,X1,Y1,-⟩:=hz3.rd
    go_wp2_with fail
    go_ret
    exact ⟨rfl,hz3.1⟩
  | true=>
    rw [Bool.true_and]
    by_cases h4:L.length <= 4
    have z_1:=trivial;rotate_left;have z_2:=trivial;rotate_left
    all_goals
     first
      | guard_hyp z_1
        have d4:decide ((L.length:Int) <= 4) = true:=decide_eq_true (by omega)
        rw [decide_eq_true h4]
      | have d4:decide ((L.length:Int) <= 4) = false:=decide_eq_false (by omega)
        rw [decide_eq_false h4]
     clear h4
     go_enter func81,ntmps81
     go_wp2_with fail
     refine (CL.out _ K0.out.1).mono ?_;rintro e uz1 ⟨rfl,bz2⟩
     have hz3:=K0.out.below bz2
     clear bz2
     obtain ⟨X0,Y0,X1,Y1,-⟩:=hz3.rd
     go_wp2_with fail
     go_ret
     exact ⟨rfl,hz3.1⟩
structure SlN where
 count:Int
 trusts:List Tru
 mac:Int
 cells:List Ce
instance:Inhabited SlN:=⟨⟨0,[],0,[]⟩⟩
def SlN.Fits (s:SlN):Prop:=s.trusts.length <= 1048576 /\ s.cells.length <= 1048576 /\ Cx s.trusts /\ I64 s.count
def SlR (w:World) (Bd:Nat) (B:Option Addr) (tc:Nat) (C:Option Addr) (cc:Nat) (s:SlN):Prop:=Trs w Bd B s.trusts /\ Cls w Bd C s.cells
def Bq (w:World) (Bd b off:Nat) (s:SlN):Prop:=
 ∃ B tc C cc,w.cell? ⟨b,off,none⟩ = some (O U s.count) /\ w.cell? ⟨b,off + 1,none⟩ = some (ψ B s.trusts.length tc) /\ w.cell? ⟨b,off + 2,none⟩ = some (O U s.mac) /\ w.cell? ⟨b,off + 3,none⟩ = some (ψ C s.cells.length cc) /\ SlR w Bd B tc C cc s
def DM (w:World) (Bd:Nat) (A:Option Addr) (S:List SlN):Prop:=∀ i,i < S.length -> ∃ b off,A = some ⟨b,off,none⟩ /\ b < Bd /\ Bq w Bd b (off + i * 4) (S.getD i default)
theorem SlR.below {w u:World} {Bd D:Nat} {B C:Option Addr} {tc cc:Nat} {s:SlN} (h:SlR w Bd B tc C cc s) (hb:Below D w u) (hD:Bd <= D):SlR u Bd B tc C cc s:=⟨h.1.below hb hD,h.2.below hb hD⟩
theorem SlR.more {w:World} {Bd D:Nat} {B C:Option Addr} {tc cc:Nat} {s:SlN} (h:SlR w Bd B tc C cc s) (hD:Bd <= D):SlR w D B tc C cc s:=⟨h.1.more hD,h.2.more hD⟩
theorem Bq.below {w u:World} {Bd D b off:Nat} {s:SlN} (h:Bq w Bd b off s) (hb:Below D w u) (hD:Bd <= D) (hlt:b < Bd):Bq u Bd b off s:=by
 obtain ⟨B,tc,C,cc,c0,c1,c2,c3,hr⟩:=h
 have f:=fun o=>hb.cell (p:=⟨b,o,none⟩) (Nat.lt_of_lt_of_le hlt hD)
 exact ⟨B,tc,C,cc,(f _).trans c0,(f _).trans c1,(f _).trans c2,(f _).trans c3,hr.below hb hD⟩
theorem Bq.more {w:World} {Bd D b off:Nat} {s:SlN} (h:Bq w Bd b off s) (hD:Bd <= D):Bq w D b off s:=by
 obtain ⟨B,tc,C,cc,c0,c1,c2,c3,hr⟩:=h
 exact ⟨B,tc,C,cc,c0,c1,c2,c3,hr.more hD⟩
theorem DM.below {w u:World} {Bd D:Nat} {A:Option Addr} {S:List SlN} (h:DM w Bd A S) (hb:Below D w u) (hD:Bd <= D):DM u Bd A S:=by
 intro i hi
 obtain ⟨b,off,e,hlt,hs⟩:=h i hi
 exact ⟨b,off,e,hlt,hs.below hb hD hlt⟩
theorem DM.more {w:World} {Bd D:Nat} {A:Option Addr} {S:List SlN} (h:DM w Bd A S) (hD:Bd <= D):DM w D A S:=by
 intro i hi
 obtain ⟨b,off,e,hlt,hs⟩:=h i hi
 exact ⟨b,off,e,by omega,hs.more hD⟩
theorem DM.grow {w u:World} {A:Option Addr} {S:List SlN} (h:DM w w.1.size A S) (hb:Below w.1.size w u):DM u u.1.size A S:=(h.below hb (lr _)).more hb.size
noncomputable def Bg (key:Int) (l:List Int) (n:Int) (s:SlN):Bool:=Fv key l s.count s.trusts s.mac s.cells && decide (s.count = n)
noncomputable def BK (key:Int) (l:List Int) (S:List SlN) (n:Int):Int:=if S.findIdx (Bg key l n) < S.length then (S.findIdx (Bg key l n):Int) else -1
theorem Fb {key n:Int} {l:List Int} {S:List SlN} {k:Nat} (hk:k < S.length) (h:Bg key l n (S.getD k default) = true) (hn:∀ j,j < k -> Bg key l n (S.getD j default) = false):BK key l S n = k:=by
 have e:S.findIdx (Bg key l n) = k:=by
  rw [List.findIdx_eq hk]
  refine ⟨by rwa [List.getD_eq_getElem?_getD,List.getElem?_eq_getElem hk] at h,fun j hj=>?_⟩
  have h2:=hn j hj
  rw [List.getD_eq_getElem?_getD,List.getElem?_eq_getElem (by omega)] at h2
  simpa using h2
 unfold BK
 rw [e,if_pos hk]
theorem Hz {key n:Int} {l:List Int} {S:List SlN} (hn:∀ j,j < S.length -> Bg key l n (S.getD j default) = false):BK key l S n = -1:=by
 unfold BK
 rw [if_neg]
 intro hlt
 have h:=List.findIdx_getElem (w:=hlt)
 have h2:=hn _ hlt
 rw [List.getD_eq_getElem?_getD,List.getElem?_eq_getElem hlt] at h2
 simp only [Option.getD_some] at h2
 rw [h2] at h;cases h
def EV (key:Int) (l:List Int) (n:Int) (S:List SlN) (k:Nat):Prop:=∀ j,j < k -> Bg key l n (S.getD j default) = false
theorem EV.succ {key n:Int} {l:List Int} {S:List SlN} {k:Nat} (h:EV key l n S k) (hk:Bg key l n (S.getD k default) = false):EV key l n S (k + 1):=by
 intro j hj
 rcases Nat.lt_or_ge j k with h1 | h1
 ·exact h j h1
 ·obtain rfl:j = k:=by omega
  exact hk
theorem JC (key:Int) (A D:Option Addr) (l:List Int) (cap:Nat) (S:List SlN) (cap2:Nat) (n:Int) (w:World) (hn:l.length <= maxLen) (hA:Ints w U w.1.size A l) (hN:S.length <= 1048576) (hD:DM w w.1.size D S) (hF:∀ i,i < S.length -> (S.getD i default).Fits):
    Calls prog 166 #[σ #[O U key,ψ A l.length cap],ψ D S.length cap2,O U n] w fun e w'=>e = τ (O U (BK key l S n)) /\ Below w.1.size w w':=by
 have K0:=hid (show Kept w [(w.1.size,26,#[O U key,ψ A l.length cap])] _ from (Kept.refl w).put1 _ _ #[O U key,ψ A l.length cap] rfl)
 have SO:=hid (fun (s:SlN) (B:Option Addr) (tc:Nat) (C:Option Addr) (cc:Nat) (hs:s.Fits) (hr:SlR w w.1.size B tc C cc s) (u:World) (hb:Below w.1.size w u)=>
  Js key A l cap s.count B s.trusts tc s.mac C s.cells cc u hn ((hA.below hb (lr _)).more hb.size) hs.1 ((hr.1.below hb (lr _)).more hb.size) hs.2.2.1 hs.2.2.2 hs.2.1 ((hr.2.below hb (lr _)).more hb.size))
 have HD:=hid hD
 have HF:=hid hF
 clear hA hD hF hn
 go_enter func166,ntmps166
 go_wp2_with fail
 go_loopw [7] (fun i wr=>∃ k:Nat,k <= S.length /\ i = O U k /\ EV key l n S k /\ Kept w [(w.1.size,26,#[O U key,ψ A l.length cap])] wr) (fun i _=>S.length - (intOf i).toNat)
 case atStart=>exact ⟨0,Nat.zero_le _,rfl,fun i hi=>absurd hi (by omega),K0.out⟩
 case round=>
  obtain ⟨k,hk,rfl,hup,hz⟩:=hrel
  have HU:=hid hup
  clear hup
  by_cases hlt:k < S.length
  ·obtain ⟨b,off,rfl,hb,B,tc,C,cc,c0,c1,c2,c3,hr⟩:=HD.out k hlt
   have hlt':(k:Int) < S.length:=by omega
   have hk0:(0:Int) <= k:=by omega
   have TB:=hid (SO.out _ B tc C cc (HF.out k hlt) hr)
   have HCH:=hid (show Bg key l n (S.getD k default) = (Fv key l (S.getD k default).count (S.getD k default).trusts (S.getD k default).mac (S.getD k default).cells && decide ((S.getD k default).count = n)) from rfl)
   have HAT:=hid (fun (h:Bg key l n (S.getD k default) = true)=>Fb hlt h HU.out)
   have HNX:=hid (fun (h:Bg key l n (S.getD k default) = false)=>HU.out.succ h)
   clear hr
   generalize Fv key l (S.getD k default).count (S.getD k default).trusts (S.getD k default).mac (S.getD k default).cells = sb at TB HCH
   generalize Bg key l n (S.getD k default) = ch at HCH HAT HNX
   generalize (S.getD k default).count = sc at c0 TB HCH
   generalize (S.getD k default).mac = sm at c2 TB
   generalize (S.getD k default).trusts.length = tl at c1 TB
   generalize (S.getD k default).cells.length = cl at c3 TB
   cases sb with
   | false=>
     have NX:=hid (HNX.out (by rw [HCH.out,Bool.false_and]))
     clear HCH HAT HNX HU
     go_upto_region 4 with fail
     refine Aw (C:=fun u=>Kept w [(w.1.size,26,#[O U key,ψ A l.length cap])] u) (by kernel_rfl) (by kernel_rfl) hz.drew ?_
     iterate 16 (first
      | go_big_quiet_skip
      | (go_big_quiet_want
         go_big_quiet_op
         first
          | go_big_quiet_on
          | (apply Exists.intro
             refine ⟨fun u hu=>?_,?_⟩
             ·first
                | with_reducible rfl
                | (go_at_call 223;exact (TB.out u hu.1).mono fun e w' h=>⟨h.1,hu.below h.2⟩)
                | (obtain ⟨X0,Y0,-⟩:=hu.rd;have d0:=(hu.1.cell (p:=⟨b,off + k * 4,none⟩) hb).trans c0;have d1:=(hu.1.cell (p:=⟨b,off + k * 4 + 1,none⟩) hb).trans c1;have d2:=(hu.1.cell (p:=⟨b,off + k * 4 + 2,none⟩) hb).trans c2;have d3:=(hu.1.cell (p:=⟨b,off + k * 4 + 3,none⟩) hb).trans c3;go_simp;first | done | with_reducible rfl)
             go_big_quiet_on)))
     refine wpQuiet_nil ?_
     intro uq hq
     go_wp2_with fail
     go_roundw
     case rel=>exact ⟨k + 1,by omega,by go_num,NX.out,hq⟩
     case measure=>simp [intOf];omega
   | true=>
     by_cases hcn:sc = n
     have z_1:=trivial;rotate_left;have z_2:=trivial;rotate_left
     all_goals
      first
       | guard_hyp z_1
         have AT:=hid (HAT.out (by rw [HCH.out,decide_eq_true hcn];rfl))
         have hbe:(sc == n) = true:=beq_iff_eq.2 hcn
       | have NX:=hid (HNX.out (by rw [HCH.out,decide_eq_false hcn];rfl))
         have hbe:(sc == n) = false:=beq_false_of_ne hcn
      clear HCH HAT HNX HU hcn
      go_upto_region 4 with fail
      refine Aw (C:=fun u=>Kept w [(w.1.size,26,#[O U key,ψ A l.length cap])] u) (by kernel_rfl) (by kernel_rfl) hz.drew ?_
      iterate 16 (first
       | go_big_quiet_skip
       | (go_big_quiet_want
          go_big_quiet_op
          first
           | go_big_quiet_on
           | (apply Exists.intro
              refine ⟨fun u hu=>?_,?_⟩
              ·first
                 | with_reducible rfl
                 | (go_at_call 223;exact (TB.out u hu.1).mono fun e w' h=>⟨h.1,hu.below h.2⟩)
                 | (obtain ⟨X0,Y0,-⟩:=hu.rd;have d0:=(hu.1.cell (p:=⟨b,off + k * 4,none⟩) hb).trans c0;have d1:=(hu.1.cell (p:=⟨b,off + k * 4 + 1,none⟩) hb).trans c1;have d2:=(hu.1.cell (p:=⟨b,off + k * 4 + 2,none⟩) hb).trans c2;have d3:=(hu.1.cell (p:=⟨b,off + k * 4 + 3,none⟩) hb).trans c3;go_simp;first | done | with_reducible rfl)
              go_big_quiet_on)))
      refine wpQuiet_nil ?_
      intro uq hq
      go_wp2_with fail
      first
       | guard_hyp z_1
         go_ret
         exact ⟨by rw [AT.out];rfl,hq.1⟩
       | go_roundw
         case rel=>exact ⟨k + 1,by omega,by go_num,NX.out,hq⟩
         case measure=>simp [intOf];omega
  ·have hk':k = S.length:=by omega
   subst hk'
   have HX:=hid (Hz (key:=key) (l:=l) (n:=n) HU.out)
   clear HU
   go_wp2_with fail
   go_ret
   exact ⟨by rw [HX.out];rfl,hz.1⟩
theorem Jc {w w1:World} {r:Nat} {t:TypeId} {x y z x0 y0 z0:Value} (hk:Aa w1 r t #[x0,y0,z0]) (hb:Below w.1.size w w1) (hr:w.1.size <= r):
    ∃ w4,((w1.setCell ⟨r,0,none⟩ x).setCell ⟨r,1,none⟩ y).setCell ⟨r,2,none⟩ z = w4 /\ (w4.cell? ⟨r,0,none⟩ = some x /\ w4.cell? ⟨r,1,none⟩ = some y /\ w4.cell? ⟨r,2,none⟩ = some z) /\ Below w.1.size w w4 /\ w1.grownBy w4 (some r):=by
 have h:=((hk.set_ 0 x).set_ 1 y).set_ 2 z
 exact ⟨_,rfl,⟨h.cell 0,h.cell 1,h.cell 2⟩,((hb.setCell (p:=⟨r,0,none⟩) hr x).setCell (p:=⟨r,1,none⟩) hr y).setCell (p:=⟨r,2,none⟩) hr z,Ai (Ai (Ai (Aj _ _) 0 x) 1 y) 2 z⟩
def OD (b:World) (cnt:Int) (L:List Tru) (mac:Int) (e:Ending) (w':World):Prop:=∃ A c,e = τ (σ #[O U cnt,ψ A L.length c,O U mac]) /\ Bl w' b.1.size (ψ A L.length c) L /\ Below b.1.size b w'
theorem LP (cnt:Int) (B:Option Addr) (L:List Tru) (tc:Nat) (mac:Int) (w:World) (hN:L.length <= 1048576) (hB:Trs w w.1.size B L):
    Calls prog 224 #[σ #[O U cnt,ψ B L.length tc,O U mac]] w (OD w cnt L mac):=by
 have K0:=hid (show Kept w [(w.1.size + 1,89,#[O U 0,ψ none 0 0,O U 0]),(w.1.size,89,#[O U cnt,ψ B L.length tc,O U mac])] _ from (((Kept.refl w).put1 _ _ #[O U cnt,ψ B L.length tc,O U mac] rfl).put1 _ _ #[O U 0,ψ none 0 0,O U 0] (by simp)))
 have CO:=hid (fun (u:World) (hb:Below w.1.size w u)=>Em B L tc u hN ((hB.below hb (lr _)).more hb.size))
 clear hB
 go_enter func224,ntmps224
 go_wp2_with fail
 refine (CO.out _ K0.out.1).mono ?_;rintro e u ⟨v,rfl,hrow,b1⟩
 have hk:=K0.out.below b1
 obtain ⟨A',c',rfl,_,_⟩:=hrow.reads AD
 have hr2:Bl u (w.1.size + 1 + 1) (ψ A' L.length c') L:=by have h:=hrow;simpa using h
 clear b1 hrow
 obtain ⟨X0,Y0,X1,Y1,-⟩:=hk.rd
 have HK:=hid hk
 have HR:=hid hr2
 clear hk hr2
 go_upto_region 2 with fail
 have hq:Kept w [(w.1.size + 1,89,#[O U 0,ψ none 0 0,O U 0]),(w.1.size,89,#[O U cnt,ψ A' L.length c',O U mac])] _:=HK.out.put (k:=1) rfl (by unfold Apart;simp) (Ai (Aj _ (some w.1.size)) 1 (ψ A' L.length c')) ((HK.out.at_ (p:=w.1.size) (t:=89) (cs:=#[O U cnt,ψ B L.length tc,O U mac]) (by simp)).set_ 1 _)
 have hr3:=HR.out.grown (Ai (Aj u (some w.1.size)) 1 (ψ A' L.length c')) (by omega)
 clear X0 Y0 X1 Y1
 generalize World.setCell _ _ _ = wq at hq hr3 |-
 obtain ⟨X0,Y0,X1,Y1,-⟩:=hq.rd
 have HQ:=hid hq
 have HR3:=hid hr3
 clear hq hr3
 go_wp2_with fail
 obtain ⟨w9,e9,⟨d0,d1,d2⟩,hb9,hg9⟩:=Jc (w:=w) (x:=O U cnt) (y:=ψ A' L.length c') (z:=O U mac) (HQ.out.at_ (p:=w.1.size + 1) (t:=89) (cs:=#[O U 0,ψ none 0 0,O U 0]) (by simp)) HQ.out.1 (by omega)
 rw [e9]
 exact bodyPost_ret (v:=σ #[O U cnt,ψ A' L.length c',O U mac]) (by simp [results,results224,go_sem,d0,d1,d2]) rfl ⟨A',c',rfl,(HR3.out.grown hg9 (by omega)).mono (by omega),hb9⟩
theorem Rl (l:List Int):∀ u ∈ l.map (Value.int U),u.oneCell' = true:=by
 intro u hu
 obtain ⟨x,_,rfl⟩:=List.mem_map.1 hu
 rfl
theorem Qs {w:World} {B:Nat} {A:Option Addr} {l:List Int} (h:Ints w U B A l):∀ j u,(l.map (Value.int U))[j]? = some u -> ∃ ad,A = some ad /\ w.cell? (ad.add j) = some u:=by
 intro j u hu
 have hj:j < l.length:=by have:=(List.getElem?_eq_some_iff.1 hu).1;simpa using this
 obtain ⟨b,off,rfl,_,hc⟩:=h j hj
 refine ⟨_,rfl,?_⟩
 rw [Addr.add_mid,hc]
 rw [List.getElem?_map,List.getElem?_eq_getElem hj] at hu
 simp only [Option.map_some,Option.some.injEq] at hu
 rw [<- hu,List.getD_eq_getElem?_getD,List.getElem?_eq_getElem hj]
 rfl
def IRow (w:World) (base:Nat) (v:Value) (l:List Int):Prop:=w.ownsRow base 2 1 v l.length (l.map (Value.int U))
theorem IRow.form {w:World} {base:Nat} {v:Value} {l:List Int} (h:IRow w base v l):∃ A c,v = ψ A l.length c /\ Ints w U w.1.size A l /\ l.length <= c:=by
 rcases h.2 with ⟨rfl,hn⟩ | ⟨g,cap,cur,rfl,hb,hg,hnc,hcm,hcs,htake⟩
 ·have:l = []:=List.length_eq_zero_iff.1 hn
  subst this
  exact ⟨none,0,rfl,Ints.nil,lr _⟩
 ·refine ⟨_,cap,rfl,fun i hi=>⟨g,0,rfl,(Array.getElem?_eq_some_iff.1 hg).1,?_⟩,hnc⟩
  rw [Nat.zero_add,World.ownsRow.cellAt h i (by omega),List.getElem?_map,List.getElem?_eq_getElem hi,List.getD_eq_getElem?_getD,List.getElem?_eq_getElem hi]
  rfl
def RP (b:World) (l:List Int) (e:Ending) (w':World):Prop:=∃ A c,e = τ (ψ A l.length c) /\ IRow w' b.1.size (ψ A l.length c) l /\ Below b.1.size b w'
theorem MW (A:Option Addr) (l:List Int) (cap:Nat) (w:World) (hn:l.length <= 1048576) (hA:Ints w U w.1.size A l):
    Calls prog 147 #[ψ A l.length cap] w (RP w l):=by
 have HB:=hid ((Below.refl w.1.size w).alloc (lr _) (.cells #[] 2))
 have HA:=hid (Qs ((hA.below HB.out (lr _)).more HB.out.size))
 have HR:=hid (World.ownsRow_made (e:=2) (size:=1) w #[] 0 (lr w.1.size) (by simp [maxLen]) rfl)
 have h1:=Rl l
 clear hA
 go_enter func147,ntmps147
 go_wp2_with (at_builtin;refine Cc rfl _ _ 24 rfl w.1.size 2 1 8 0 (O U 0) (ψ (some ⟨w.1.size,0,none⟩) 0 0) [] A l.length cap (l.map (Value.int U)) underlying24 GD rfl (by omega) rfl HR.out rfl (by simp) HA.out h1 (by unfold maxLen;omega) (by omega) (by simp) ?_)
 intro v' w' hown hg _
 have hb:Below w.1.size w w':=bgb HB.out (g:=w.1.size) (by simpa [Value.ownBlock] using hg) (by simp) (lr _)
 have hrow:IRow w' w.1.size v' l:=hown
 obtain ⟨A',c',rfl,_,_⟩:=hrow.form
 go_wp2_with fail
 go_ret
 exact ⟨A',c',rfl,hrow,hb⟩
theorem RJ {u w':World} {t size n:Nat} {A:Option Addr} {c m:Nat} {xs:List Value} (h:w'.ownsRow u.1.size t size (ψ A m c) n xs):∀ g ∈ (AE 0 0 t size n xs).fp (ψ A m c),u.1.size <= g /\ g < w'.1.size:=by
 intro g hg
 cases A with
 | none=>simp [AE] at hg
 | some a=>
   simp only [AE,List.mem_singleton] at hg
   subst hg
   exact World.ownsRow.lt h a.block rfl
theorem AV {u:World} {base base' t size n:Nat} {v:Value} {xs:List Value} (h:u.ownsRow base t size v n xs) (hb:base' <= base):u.ownsRow base' t size v n xs:=by
 refine ⟨h.1,?_⟩
 rcases h.2 with h0 | ⟨g,cap,cur,e,hg,r⟩
 ·exact .inl h0
 ·exact .inr ⟨g,cap,cur,e,Nat.le_trans hb hg,r⟩
def SD (b:World) (key:Int) (l:List Int) (e:Ending) (w':World):Prop:=∃ A c,e = τ (σ #[O U key,ψ A l.length c]) /\ IRow w' b.1.size (ψ A l.length c) l /\ Below b.1.size b w'
theorem IE (key:Int) (A:Option Addr) (l:List Int) (cap:Nat) (w:World) (hn:l.length <= 1048576) (hA:Ints w U w.1.size A l):
    Calls prog 72 #[σ #[O U key,ψ A l.length cap]] w (SD w key l):=by
 have K0:=hid (show Kept w [(w.1.size + 1,26,#[O U 0,ψ none 0 0]),(w.1.size,26,#[O U key,ψ A l.length cap])] _ from (((Kept.refl w).put1 _ _ #[O U key,ψ A l.length cap] rfl).put1 _ _ #[O U 0,ψ none 0 0] (by simp)))
 have CO:=hid (fun (u:World) (hb:Below w.1.size w u)=>MW A l cap u hn ((hA.below hb (lr _)).more hb.size))
 clear hA
 go_enter func72,ntmps72
 go_upto_region 1 with fail
 have hk:=K0.out
 generalize (w.alloc _).alloc _ = w0 at hk |-
 have lm0:w.1.size < w0.1.size:=hk.lt (x:=(w.1.size,26,#[O U key,ψ A l.length cap])) (by simp)
 have lm1:w.1.size + 1 < w0.1.size:=hk.lt (x:=(w.1.size + 1,26,#[O U 0,ψ none 0 0])) (by simp)
 have hn0:Kept w [(w.1.size,26,#[O U key,ψ A l.length cap])] _:=hk.sub (by intro y hy;simp at hy |-;subst hy;simp)
 have hcz:=hk.at_ (p:=w.1.size + 1) (t:=26) (cs:=#[O U 0,ψ none 0 0]) (by simp)
 have hok:OutB.Ok (⟨w.1.size + 1,26,2,6,[4],fun γ=>#[O U key,γ 4]⟩:OutB) w (w0.1.size) [(w.1.size,26,#[O U key,ψ A l.length cap])]:=⟨by simp only [] <;> omega,by simp only [] <;> omega,by intro y hy;simp only [List.mem_cons,List.not_mem_nil,or_false] at hy;subst hy <;> (simp only [];omega),fun γ γ' ha=>by simp only [];rw [ha 4 (by simp)],fun γ=>rfl,by simp⟩
 have hstab:∀ zz ∈ ([AE 4 w.1.size 2 1 l.length (l.map (Value.int U))]:List Own),zz.Stable:=by
  intro y hy
  simp only [List.mem_cons,List.not_mem_nil,or_false] at hy
  subst hy;exact AE.stable _ _ _ _ _ _
 have hstart:∀ γ,OwnR w (w0.1.size) [(w.1.size,26,#[O U key,ψ A l.length cap])] [AE 4 w.1.size 2 1 l.length (l.map (Value.int U))] (fun _ _=>false) (⟨w.1.size + 1,26,2,6,[4],fun γ=>#[O U key,γ 4]⟩:OutB) (fun _=>false) γ _:=fun γ=>OwnR.start hn0 hn0.1.size (lr _) (by intro y hy;simp only [List.mem_cons,List.not_mem_nil,or_false] at hy;subst hy <;> (simp only [];omega)) hcz rfl
 refine Ao [false,false,false,false,true,false,true] (ShL [(4,fun v=>∃ (A:Option Addr) (c:Nat),v = ψ A l.length c)]) (fun D γ u=>OwnR w (w0.1.size) [(w.1.size,26,#[O U key,ψ A l.length cap])] [AE 4 w.1.size 2 1 l.length (l.map (Value.int U))] (fun _ _=>false) (⟨w.1.size + 1,26,2,6,[4],fun γ=>#[O U key,γ 4]⟩:OutB) D γ u) (by kernel_rfl) (by kernel_rfl) (fun γ=>by kernel_rfl) (fun D γ γ' w ha h=>h.loc hok ha) (ShL.inh _ ?inh) (fun γ=>hstart γ) (fun γ hγ=>?_)
 case inh=>
  intro y hy
  simp only [List.mem_cons,List.not_mem_nil,or_false] at hy
  subst hy
  ·exact ⟨_,none,0,rfl⟩
 clear hstart hn0 hcz
 obtain ⟨A4,c4,g4⟩:∃ (A:Option Addr) (c:Nat),γ 4 = ψ A l.length c:=hγ 4 rfl
 have g6:γ 6 = undef:=hγ 6 rfl
 clear hk
 apply Exists.intro
 refine ⟨fun D=>?_,?_,?_⟩
 ·simp only [AP,cond_true,cond_false,Nat.reduceAdd,g4,g6]
  iterate 7 (first
   | go_big_quiet_skip
   | (go_big_quiet_want
      go_big_quiet_op
      first
       | go_big_quiet_on
       | (apply Exists.intro
          refine ⟨fun u hu=>?_,?_⟩
          ·first
             | with_reducible rfl
             | (obtain ⟨X0,Y0,-⟩:=hu.1.1.1.rd;go_simp;first | done | with_reducible rfl)
          go_big_quiet_on)))
  exact wpQuiet_nil rfl
 ·simp only [AY,Nat.reduceAdd]
  refine ⟨fun D u hD hd hu=>?_,fun D u hD hd hu=>?_,trivial⟩
  ·refine As ((CO.out u hu.1.1.1.1).mono ?_) rfl rfl rfl rfl (by kernel_rfl)
   rintro e w' ⟨A5,c5,rfl,hrow,hb⟩
   refine ⟨_,rfl,⟨A5,c5,rfl⟩,?_⟩
   exact hu.made hok hstab (z:=AE 4 w.1.size 2 1 l.length (l.map (Value.int U))) (by simp) (by intro y hy;simp only [List.mem_cons,List.not_mem_nil,or_false] at hy;subst hy;exact .inl rfl) hD (nq rfl) hb (AV hrow hu.1.1.1.1.size) (fun g hg=>RJ hrow g hg)
  ·obtain ⟨z,hz,hzs⟩:=hu.box
   refine AI hz rfl rfl (show _ = Value.agg #[O U key,ψ A4 l.length c4] from rfl) (by kernel_rfl) hzs (by simp [Value.oneCell']) (fun w' hc hg=>⟨rfl,hu.stored hok hstab (by intro y hy;simp only [List.mem_cons,List.not_mem_nil,or_false] at hy;subst hy;exact ⟨nq rfl,nq rfl⟩) (by intro y hy;simp only [List.mem_cons,List.not_mem_nil,or_false] at hy;subst hy;exact hd { on:=4,ground:=Ground.phase } (by simp) rfl rfl) hg ?_ _⟩)
   show Aa w' (w.1.size + 1) 26 (#[O U key,γ 4])
   simp only [g4]
   exact hc
 ·intro D uf hD hu
  have ho4:IRow uf w.1.size (γ 4) l:=(hu.1.at_ (z:=AE 4 w.1.size 2 1 l.length (l.map (Value.int U))) (by simp) (hD 4 (by simp) rfl)).1
  simp only [g4] at ho4
  obtain ⟨hres0,hf⟩:=hu.done (hD 6 (by simp) rfl)
  have hres:Aa uf (w.1.size + 1) 26 (#[O U key,γ 4]):=hres0
  simp only [g4] at hres
  clear hres0
  have d0:=hres.cell 0
  have d1:=hres.cell 1
  go_wp2_with fail
  exact bodyPost_ret (v:=σ #[O U key,ψ A4 l.length c4]) (by simp [results,results72,go_sem,d0,d1]) rfl ⟨A4,c4,rfl,ho4,hf.1⟩

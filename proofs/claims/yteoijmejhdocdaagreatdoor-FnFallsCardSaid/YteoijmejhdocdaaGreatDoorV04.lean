import Derived.Test.YteoijmejhdocdaaGreatDoorV03
import Derived.Maps.OwnSet
import Derived.DeepKeys4
import Derived.MapViews
import Derived.Deep.RegionWith
import Derived.Laws.CopyOwn
import Derived.Laws.MakeOwn
namespace Go.Proofs.YteoijmejhdocdaaGreatDoor.Mx
open Go.ChangeShapes Go.WideShapes Go.ChangeAt Go.RowKit
set_option linter.unusedVariables false
open Go.Lib (hid)
open Go.Proofs.Tryz
set_option maxRecDepth 20000
set_option maxHeartbeats 64000000
open Value renaming int → O, slice → ψ, bool → φ, agg → σ
open IntKind renaming i64 → U
open Ending renaming returned → τ
def isAt (a:Int):Prop:=0 <= a /\ a <= 23
def isTm (t:Int):Prop:=0 <= t /\ t <= 100000
def Dc (a t v:Int):Prop:=isAt a /\ isTm t /\ BP v
instance (a:Int):Decidable (isAt a):=inferInstanceAs (Decidable (_ /\ _))
instance (a:Int):Decidable (isTm a):=inferInstanceAs (Decidable (_ /\ _))
instance (a:Int):Decidable (BP a):=inferInstanceAs (Decidable (_ /\ _))
instance (a t v:Int):Decidable (Dc a t v):=inferInstanceAs (Decidable (_ /\ _))
noncomputable def Di (key a t v:Int):Int:=if Dc a t v then Df key [2,a,t,v] else -1
theorem JG {key a t v:Int} (h:Dc a t v):Di key a t v = Df key [2,a,t,v]:=by unfold Di;rw [if_pos h]
theorem KI {key a t v:Int} (h:¬ Dc a t v):Di key a t v = -1:=by unfold Di;rw [if_neg h]
theorem Rz (key a t v:Int):-1 <= Di key a t v /\ Di key a t v <= 4611686018427387903:=by
 by_cases h:Dc a t v
 ·rw [JG h];exact Og _ _
 ·rw [KI h];omega
theorem Dc.i64 {a t v:Int} (h:Dc a t v):I64 a /\ I64 t /\ I64 v:=by
 unfold Dc isAt isTm BP at h
 exact ⟨⟨by omega,by omega⟩,⟨by omega,by omega⟩,⟨by omega,by omega⟩⟩
theorem Lo (s:Int) (w:World) (h:isTm s):
    Calls prog 243 #[O U s] w fun e w'=>e = τ (φ true) /\ w = w':=by
 obtain ⟨h0,h1⟩:=h
 go_enter func243,ntmps243
 go_wp2
 go_ret
 exact ⟨rfl,rfl⟩
theorem MH (s:Int) (w:World) (h:¬ isTm s):
    Calls prog 243 #[O U s] w fun e w'=>e = τ (φ false) /\ w = w':=by
 unfold isTm at h
 by_cases h0:0 <= s
 ·have h2:¬ s <= 100000:=by omega
  clear h
  go_enter func243,ntmps243
  go_wp2
  go_ret
  exact ⟨rfl,rfl⟩
 ·clear h
  go_enter func243,ntmps243
  go_wp2
  go_ret
  exact ⟨rfl,rfl⟩
theorem Lj (s:Int) (w:World) (h:isAt s):
    Calls prog 235 #[O U s] w fun e w'=>e = τ (φ true) /\ w = w':=by
 obtain ⟨h0,h1⟩:=h
 go_enter func235,ntmps235
 go_wp2_with (go_at_call 82;refine (Bm _ _ _ _ h0 h1).mono ?_;rintro e w' ⟨rfl,rfl⟩)
 go_ret
 exact ⟨rfl,rfl⟩
theorem PZ (s:Int) (w:World) (h:¬ isAt s):
    Calls prog 235 #[O U s] w fun e w'=>e = τ (φ false) /\ w = w':=by
 unfold isAt at h
 have h':s < 0 \/ 23 < s:=by omega
 clear h
 go_enter func235,ntmps235
 go_wp2_with (go_at_call 82;refine (DD _ _ _ _ h').mono ?_;rintro e w' ⟨rfl,rfl⟩)
 go_ret
 exact ⟨rfl,rfl⟩
theorem EM (s:Int) (w:World) (h:isTm s):
    Calls prog 167 #[O U s] w fun e w'=>e = τ (φ true) /\ w = w':=by
 obtain ⟨h0,h1⟩:=h
 go_enter func167,ntmps167
 go_wp2_with (go_at_call 82;refine (Bm _ _ _ _ h0 h1).mono ?_;rintro e w' ⟨rfl,rfl⟩)
 go_ret
 exact ⟨rfl,rfl⟩
theorem Jk (s:Int) (w:World) (h:¬ isTm s):
    Calls prog 167 #[O U s] w fun e w'=>e = τ (φ false) /\ w = w':=by
 unfold isTm at h
 have h':s < 0 \/ 100000 < s:=by omega
 clear h
 go_enter func167,ntmps167
 go_wp2_with (go_at_call 82;refine (DD _ _ _ _ h').mono ?_;rintro e w' ⟨rfl,rfl⟩)
 go_ret
 exact ⟨rfl,rfl⟩
theorem CV (a t v:Int) (w:World):
    Calls prog 213 #[σ #[O U a,O U t,O U v]] w fun e w'=>e = τ (φ (decide (Dc a t v))) /\ Below w.1.size w w':=by
 by_cases ha:isAt a
 ·by_cases ht:isTm t
  ·by_cases hv:BP v
   have z_1:=trivial;rotate_left;have z_2:=trivial;rotate_left
   all_goals
    have C:=hid (fun w=>Lj a w ha)
    have D:=hid (fun w=>EM t w ht)
    first
     | guard_hyp z_1
       have E:=hid (fun w=>DI v w hv)
       rw [decide_eq_true (show Dc a t v from ⟨ha,ht,hv⟩)]
     | have E:=hid (fun w=>ER v w hv)
       rw [decide_eq_false (show ¬ Dc a t v from fun h=>hv h.2.2)]
    clear ha ht hv
    go_enter func213,ntmps213
    go_wp2_with fail
    refine (C.out _).mono ?_;rintro e w' ⟨rfl,rfl⟩
    go_wp2_with fail
    refine (D.out _).mono ?_;rintro e w' ⟨rfl,rfl⟩
    go_wp2_with fail
    refine (E.out _).mono ?_;rintro e w' ⟨rfl,rfl⟩
    go_wp2_with fail
    go_ret
    exact ⟨rfl,(Below.refl _ _).alloc (lr _) _⟩
  ·have C:=hid (fun w=>Lj a w ha)
   have D:=hid (fun w=>Jk t w ht)
   rw [decide_eq_false (show ¬ Dc a t v from fun h=>ht h.2.1)]
   clear ha ht
   go_enter func213,ntmps213
   go_wp2_with fail
   refine (C.out _).mono ?_;rintro e w' ⟨rfl,rfl⟩
   go_wp2_with fail
   refine (D.out _).mono ?_;rintro e w' ⟨rfl,rfl⟩
   go_wp2_with fail
   go_ret
   exact ⟨rfl,(Below.refl _ _).alloc (lr _) _⟩
 ·have C:=hid (fun w=>PZ a w ha)
  rw [decide_eq_false (show ¬ Dc a t v from fun h=>ha h.1)]
  clear ha
  go_enter func213,ntmps213
  go_wp2_with fail
  refine (C.out _).mono ?_;rintro e w' ⟨rfl,rfl⟩
  go_wp2_with fail
  go_ret
  exact ⟨rfl,(Below.refl _ _).alloc (lr _) _⟩
theorem NP (key x y z u:Int) (g:Nat) (w:World) (hg:w.1.size = g) (a:I64 x) (b:I64 y) (c:I64 z) (d:I64 u):
    Calls prog 216 #[O U key,ψ (some ⟨g,0,none⟩) 4 4] (w.alloc (.cells #[O U x,O U y,O U z,O U u] 2)) fun e w'=>e = τ (O U (Df key [x,y,z,u])) /\ w.alloc (.cells #[O U x,O U y,O U z,O U u] 2) = w':=by
 subst hg
 exact FZ key (some ⟨w.1.size,0,none⟩) [x,y,z,u] 4 (w.1.size + 1) _ (by simp [maxLen]) (Aa.reads [x,y,z,u] (Aa.new w 2 _)) (I64s.cons a.1 a.2 (KW b c d))
theorem RN:I64 2:=⟨by omega,by omega⟩
theorem Ej (key a t v:Int) (w:World):
    Calls prog 207 #[O U key,σ #[O U a,O U t,O U v]] w fun e w'=>e = τ (O U (Di key a t v)) /\ Below w.1.size w w':=by
 by_cases h:Dc a t v
 ·have K:=hid (fun w=>CV a t v w)
  rw [decide_eq_true h] at K
  have C:=hid (fun g w hg=>NP key 2 a t v g w hg RN h.i64.1 h.i64.2.1 h.i64.2.2)
  rw [JG h]
  clear h
  generalize Df key [2,a,t,v] = m at C
  go_enter func207,ntmps207
  go_wp2_with fail
  refine (K.out _).mono ?_;rintro e w1 ⟨rfl,b1⟩
  have hb:=(Aa.new w 159 #[O U a,O U t,O U v]).below b1 (by simp)
  have c0:w1.cell? ⟨w.1.size,0,none⟩ = some (O U a):=hb.cell 0
  have c1:w1.cell? ⟨w.1.size,1,none⟩ = some (O U t):=hb.cell 1
  have c2:w1.cell? ⟨w.1.size,2,none⟩ = some (O U v):=hb.cell 2
  have B1:=hid (((Below.refl w.1.size w).alloc (lr _) _).trans (b1.mono (by simp)))
  clear hb b1
  go_wp2_with fail
  refine (C.out _ _ ?_).mono ?_;(first | rfl | simp);rintro e w7 ⟨rfl,h7⟩
  subst h7
  go_wp2_with fail
  go_ret
  exact ⟨rfl,B1.out.alloc B1.out.size _⟩
 ·have K:=hid (fun w=>CV a t v w)
  rw [decide_eq_false h] at K
  rw [KI h]
  clear h
  go_enter func207,ntmps207
  go_wp2_with fail
  refine (K.out _).mono ?_;rintro e w1 ⟨rfl,b1⟩
  have B1:=hid (((Below.refl w.1.size w).alloc (lr _) _).trans (b1.mono (by simp)))
  clear b1
  go_wp2_with fail
  go_ret
  exact ⟨rfl,B1.out⟩
open Go.ChangeShapes Go.WideShapes Go.ChangeAt Go.RowKit Go.Maps
abbrev Tri:=Int × Int × Int
def Tris (w:World) (B:Nat) (A:Option Addr) (L:List Tri):Prop:=
 ∀ i,i < L.length -> ∃ b off,A = some ⟨b,off,none⟩ /\ b < B /\ w.cell? ⟨b,off + i * 3,none⟩ = some (O U (L.getD i (0,0,0)).1) /\ w.cell? ⟨b,off + i * 3 + 1,none⟩ = some (O U (L.getD i (0,0,0)).2.1) /\ w.cell? ⟨b,off + i * 3 + 2,none⟩ = some (O U (L.getD i (0,0,0)).2.2)
theorem Tris.below {w w':World} {B B':Nat} {A:Option Addr} {L:List Tri} (h:Tris w B A L) (hb:Below B' w w') (hB:B <= B'):Tris w' B A L:=by
 intro i hi
 obtain ⟨b,off,rfl,hlt,c0,c1,c2⟩:=h i hi
 have f:=fun o=>hb.cell (p:=⟨b,o,none⟩) (Nat.lt_of_lt_of_le hlt hB)
 exact ⟨b,off,rfl,hlt,(f _).trans c0,(f _).trans c1,(f _).trans c2⟩
theorem RF {L:List Tri} {k:Nat} (h:k < L.length):L.getD k (0,0,0) ∈ L:=by
 rw [List.getD_eq_getElem?_getD,List.getElem?_eq_getElem h];exact List.getElem_mem h
theorem Qy {L:List Tri} {k:Nat} (h:k < L.length):L.take (k + 1) = L.take k ++ [L.getD k (0,0,0)]:=by
 rw [List.take_succ_eq_append_getElem h,List.getD_eq_getElem?_getD,List.getElem?_eq_getElem h];rfl
theorem QG:(prog.info? 159).map (fun i=>(i.zero,i.size,i.bytes)) = some (some (σ #[O U 0,O U 0,O U 0]),3,24):=by kernel_rfl
theorem Oy:∃ i,prog.info? 159 = some i /\ i.zero = some (σ #[O U 0,O U 0,O U 0]) /\ i.size = 3 /\ i.bytes = 24:=by
 obtain ⟨i,hi,hzz⟩:=Option.map_eq_some_iff.1 QG
 simp only [Prod.mk.injEq] at hzz
 exact ⟨i,hi,hzz⟩
def TriM (L:List Tri):Prop:=∀ T ∈ L,I64 T.1 /\ I64 T.2.1 /\ I64 T.2.2
theorem TriM.nil:TriM []:=fun T h=>by cases h
theorem TriM.snoc {L:List Tri} {a t v:Int} (h:TriM L) (ha:I64 a) (ht:I64 t) (hv:I64 v):TriM (L ++ [(a,t,v)]):=by
 intro T hT
 rcases List.mem_append.1 hT with h1 | h1
 ·exact h T h1
 ·rw [List.mem_singleton] at h1;subst h1;exact ⟨ha,ht,hv⟩
def IP (L:List Tri):List Value:=L.flatMap fun T=>[O U T.1,O U T.2.1,O U T.2.2]
theorem Pt (L:List Tri) (a t v:Int):IP (L ++ [(a,t,v)]) = IP L ++ [O U a,O U t,O U v]:=by simp [IP]
theorem Ju (L:List Tri) (i j:Nat) (hi:i < L.length) (hj:j < 3):(IP L)[i * 3 + j]? = some (O U (if j = 0 then (L.getD i (0,0,0)).1 else if j = 1 then (L.getD i (0,0,0)).2.1 else (L.getD i (0,0,0)).2.2)):=by
 induction L generalizing i with
 | nil=>simp at hi
 | cons T L ih=>
   have hc:IP (T :: L) = O U T.1 :: O U T.2.1 :: O U T.2.2 :: IP L:=rfl
   rw [hc]
   cases i with
   | zero=>
     have h3:j = 0 \/ j = 1 \/ j = 2:=by omega
     rcases h3 with rfl | rfl | rfl <;> simp
   | succ i=>
     rw [show (i + 1) * 3 + j = (i * 3 + j) + 1 + 1 + 1 by omega]
     simp only [List.getElem?_cons_succ]
     rw [ih i (by simpa using hi)]
     simp
def TRow (w:World) (base:Nat) (v:Value) (L:List Tri):Prop:=w.ownsRow base 159 3 v L.length (IP L) /\ TriM L
theorem TRow.alloc {w:World} {base:Nat} {v:Value} {L:List Tri} (h:TRow w base v L) (o:Obj):TRow (w.alloc o) base v L:=⟨h.1.alloc o,h.2⟩
theorem TRow.snoc {w':World} {base:Nat} {v:Value} {L:List Tri} {a t z:Int} (h:TriM L) (ha:I64 a) (ht:I64 t) (hz:I64 z)
    (hw:w'.ownsRow base 159 3 v (L.length + 1) (IP L ++ [O U a,O U t,O U z])):TRow w' base v (L ++ [(a,t,z)]):=by
 refine ⟨?_,h.snoc ha ht hz⟩
 rw [List.length_append,Pt]
 exact hw
theorem TRow.made (w:World) (base:Nat) (h:base <= w.1.size):TRow (w.alloc (.cells #[] 159)) base (ψ (some ⟨w.1.size,0,none⟩) 0 0) []:=
 ⟨World.ownsRow_made w #[] 0 h (by simp [maxLen]) rfl,TriM.nil⟩
def Lies (w:World) (lo hi:Nat) (A:Option Addr) (L:List Tri):Prop:=
 ∀ i,i < L.length -> ∃ b off,A = some ⟨b,off,none⟩ /\ lo <= b /\ b < hi /\ w.cell? ⟨b,off + i * 3,none⟩ = some (O U (L.getD i (0,0,0)).1) /\ w.cell? ⟨b,off + i * 3 + 1,none⟩ = some (O U (L.getD i (0,0,0)).2.1) /\ w.cell? ⟨b,off + i * 3 + 2,none⟩ = some (O U (L.getD i (0,0,0)).2.2)
theorem Lies.tris {w:World} {lo hi:Nat} {A:Option Addr} {L:List Tri} (h:Lies w lo hi A L):Tris w hi A L:=by
 intro i hi
 obtain ⟨b,off,e,_,h1,c⟩:=h i hi
 exact ⟨b,off,e,h1,c⟩
theorem TRow.lies {w:World} {base:Nat} {v:Value} {L:List Tri} (h:TRow w base v L):∃ A c,v = ψ A L.length c /\ Lies w base w.1.size A L:=by
 rcases h.1.2 with ⟨rfl,hn⟩ | ⟨g,cap,cur,rfl,hb,hg,hnc,hcm,hcs,htake⟩
 ·have:L = []:=List.length_eq_zero_iff.1 hn
  subst this
  exact ⟨none,0,rfl,fun i hi=>by simp at hi⟩
 ·refine ⟨_,cap,rfl,fun i hi=>⟨g,0,rfl,hb,(Array.getElem?_eq_some_iff.1 hg).1,?_,?_,?_⟩⟩
  ·rw [Nat.zero_add,h.1.cellAt (i * 3) (by omega),show i * 3 = i * 3 + 0 from rfl,Ju L i 0 hi (by omega)];rfl
  ·rw [Nat.zero_add,h.1.cellAt (i * 3 + 1) (by omega),Ju L i 1 hi (by omega)];rfl
  ·rw [Nat.zero_add,h.1.cellAt (i * 3 + 2) (by omega),Ju L i 2 hi (by omega)];rfl
open Classical in
noncomputable def GM (s by_ v:Int):Int:=if 0 <= s /\ BP v then (v + by_) % 10007 else -1
theorem Gm {s by_ v:Int} (h:0 <= s) (hv:BP v):GM s by_ v = (v + by_) % 10007:=by unfold GM;rw [if_pos ⟨h,hv⟩]
theorem Kp {s by_ v:Int} (h:s < 0):GM s by_ v = -1:=by unfold GM;rw [if_neg (by omega)]
theorem MF {s by_ v:Int} (hv:¬ BP v):GM s by_ v = -1:=by unfold GM;rw [if_neg (fun h=>hv h.2)]
noncomputable def Fz (key at_ time v:Int):Int:=GM (Dr key at_ time) (Dr key at_ time) v
noncomputable def Gv (key at_ time v:Int):Int:=GM (Dr key at_ time) (10007 - Dr key at_ time) v
theorem Jj (key at_ time v:Int) (w:World) (ha:I64 at_) (ht:I64 time):
    Calls prog 214 #[O U key,O U at_,O U time,O U v] w fun e w'=>e = τ (O U (Fz key at_ time v)) /\ Below w.1.size w w':=by
 have C:=hid (fun w=>Ge key at_ time w ha ht)
 have S:=JW key at_ time
 unfold Fz
 clear ha ht
 generalize Dr key at_ time = s at C S
 obtain ⟨s0,s1⟩:=S
 by_cases hs:s < 0
 ·rw [Kp hs]
  go_enter func214,ntmps214
  go_wp2_with fail
  refine (C.out _).mono ?_;rintro e w1 ⟨rfl,b1⟩
  have B1:=hid b1
  clear b1
  go_wp2_with fail
  go_ret
  exact ⟨rfl,B1.out⟩
 ·by_cases hv:BP v
  have z_1:=trivial;rotate_left;have z_2:=trivial;rotate_left
  all_goals
   first
    | guard_hyp z_1
      rw [Gm (by omega) hv]
      have D:=hid (fun w=>DI v w hv)
      obtain ⟨v0,v1⟩:=hv
    | rw [MF hv]
      have D:=hid (fun w=>ER v w hv)
      clear hv
   go_enter func214,ntmps214
   go_wp2_with fail
   refine (C.out _).mono ?_;rintro e w1 ⟨rfl,b1⟩
   have B1:=hid b1
   clear b1
   go_wp2_with fail
   refine (D.out _).mono ?_;rintro e w' ⟨rfl,rfl⟩
   go_wp2_with fail
   go_ret
   exact ⟨rfl,B1.out⟩
theorem Ke (key at_ time v:Int) (w:World) (ha:I64 at_) (ht:I64 time):
    Calls prog 236 #[O U key,O U at_,O U time,O U v] w fun e w'=>e = τ (O U (Gv key at_ time v)) /\ Below w.1.size w w':=by
 have C:=hid (fun w=>Ge key at_ time w ha ht)
 have S:=JW key at_ time
 unfold Gv
 clear ha ht
 generalize Dr key at_ time = s at C S
 obtain ⟨s0,s1⟩:=S
 by_cases hs:s < 0
 ·rw [Kp hs]
  go_enter func236,ntmps236
  go_wp2_with fail
  refine (C.out _).mono ?_;rintro e w1 ⟨rfl,b1⟩
  have B1:=hid b1
  clear b1
  go_wp2_with fail
  go_ret
  exact ⟨rfl,B1.out⟩
 ·by_cases hv:BP v
  ·rw [Gm (by omega) hv]
   have D:=hid (fun w=>DI v w hv)
   obtain ⟨v0,v1⟩:=hv
   go_enter func236,ntmps236
   go_wp2_with fail
   refine (C.out _).mono ?_;rintro e w1 ⟨rfl,b1⟩
   have B1:=hid b1
   clear b1
   go_wp2_with fail
   refine (D.out _).mono ?_;rintro e w' ⟨rfl,rfl⟩
   go_wp2_with fail
   go_ret
   exact ⟨by rw [show v + (10007 - s) = v - s + 10007 by omega];rfl,B1.out⟩
  ·rw [MF hv]
   have D:=hid (fun w=>ER v w hv)
   clear hv
   go_enter func236,ntmps236
   go_wp2_with fail
   refine (C.out _).mono ?_;rintro e w1 ⟨rfl,b1⟩
   have B1:=hid b1
   clear b1
   go_wp2_with fail
   refine (D.out _).mono ?_;rintro e w' ⟨rfl,rfl⟩
   go_wp2_with fail
   go_ret
   exact ⟨rfl,B1.out⟩
def AO (t v:Int):Prop:=isTm t /\ BP v
instance (t v:Int):Decidable (AO t v):=inferInstanceAs (Decidable (_ /\ _))
def Fc (key:Int):Prop:=1 <= key /\ key <= 1000000
instance (key:Int):Decidable (Fc key):=inferInstanceAs (Decidable (_ /\ _))
noncomputable def Al (key a t v:Int):Int × Int:=if Fc key /\ Dc a t v then (t,Fz key a t v) else (0,0)
noncomputable def Av (key a t v:Int):Int:=if Fc key /\ isAt a /\ AO t v then Gv key a t v else -1
def Ag (a t v:Int):Int × Int × Int:=if Dc a t v then (a,t,v) else (0,0,0)
theorem Lq {key a t v:Int} (hk:Fc key) (h:Dc a t v):Al key a t v = (t,Fz key a t v):=by unfold Al;rw [if_pos ⟨hk,h⟩]
theorem Mq {key a t v:Int} (h:¬ (Fc key /\ Dc a t v)):Al key a t v = (0,0):=by unfold Al;rw [if_neg h]
theorem GP {key a t v:Int} (hk:Fc key) (ha:isAt a) (h:AO t v):Av key a t v = Gv key a t v:=by unfold Av;rw [if_pos ⟨hk,ha,h⟩]
theorem Ig {key a t v:Int} (h:¬ (Fc key /\ isAt a /\ AO t v)):Av key a t v = -1:=by unfold Av;rw [if_neg h]
theorem Gs {a t v:Int} (h:Dc a t v):Ag a t v = (a,t,v):=by unfold Ag;rw [if_pos h]
theorem JR {a t v:Int} (h:¬ Dc a t v):Ag a t v = (0,0,0):=by unfold Ag;rw [if_neg h]
theorem AQ (t v:Int) (w:World):
    Calls prog 161 #[σ #[O U t,O U v]] w fun e w'=>e = τ (φ (decide (AO t v))) /\ Below w.1.size w w':=by
 by_cases ht:isTm t
 ·have D:=hid (fun w=>EM t w ht)
  by_cases hv:BP v
  have z_1:=trivial;rotate_left;have z_2:=trivial;rotate_left
  all_goals
   first
    | guard_hyp z_1
      have E:=hid (fun w=>DI v w hv)
      rw [decide_eq_true (show AO t v from ⟨ht,hv⟩)]
    | have E:=hid (fun w=>ER v w hv)
      rw [decide_eq_false (show ¬ AO t v from fun h=>hv h.2)]
   clear ht hv
   go_enter func161,ntmps161
   go_wp2_with fail
   refine (D.out _).mono ?_;rintro e w' ⟨rfl,rfl⟩
   go_wp2_with fail
   refine (E.out _).mono ?_;rintro e w' ⟨rfl,rfl⟩
   go_wp2_with fail
   go_ret
   exact ⟨rfl,(Below.refl _ _).alloc (lr _) _⟩
 ·have D:=hid (fun w=>Jk t w ht)
  rw [decide_eq_false (show ¬ AO t v from fun h=>ht h.1)]
  clear ht
  go_enter func161,ntmps161
  go_wp2_with fail
  refine (D.out _).mono ?_;rintro e w' ⟨rfl,rfl⟩
  go_wp2_with fail
  go_ret
  exact ⟨rfl,(Below.refl _ _).alloc (lr _) _⟩
theorem Oc {w w1:World} {r:Nat} {x y x0 y0:Value} (hk:Aa w1 r 118 #[x0,y0]) (hb:Below w.1.size w w1) (hr:w.1.size <= r):
    ∃ w4,(w1.setCell ⟨r,0,none⟩ x).setCell ⟨r,1,none⟩ y = w4 /\ (w4.cell? ⟨r,0,none⟩ = some x /\ w4.cell? ⟨r,1,none⟩ = some y) /\ Below w.1.size w w4:=by
 have h:=(hk.set_ 0 x).set_ 1 y
 exact ⟨_,rfl,⟨h.cell 0,h.cell 1⟩,(hb.setCell (p:=⟨r,0,none⟩) hr x).setCell (p:=⟨r,1,none⟩) hr y⟩
theorem EO (key a t v:Int) (w:World):
    Calls prog 148 #[O U key,O U a,O U t,O U v] w fun e w'=>e = τ (σ #[O U (Al key a t v).1,O U (Al key a t v).2]) /\ Below w.1.size w w':=by
 have HK:=hid (Aa.new w 118 #[O U 0,O U 0])
 by_cases hk:Fc key
 ·have C:=hid (fun w=>EB key w hk.1 hk.2)
  have D:=hid (fun w=>CV a t v w)
  by_cases h:Dc a t v
  ·rw [Lq hk h]
   rw [decide_eq_true h] at D
   have E:=hid (fun w=>Jj key a t v w h.i64.1 h.i64.2.1)
   generalize Fz key a t v = z at E
   clear hk h
   go_enter func148,ntmps148
   go_wp2_with fail
   refine (C.out _).mono ?_;rintro e w' ⟨rfl,rfl⟩
   go_wp2_with fail
   refine (D.out _).mono ?_;rintro e w1 ⟨rfl,b1⟩
   have B1:=hid b1
   clear b1
   go_wp2_with fail
   refine (E.out _).mono ?_;rintro e w2 ⟨rfl,b2⟩
   have bb:=B1.out.trans (b2.mono B1.out.size)
   have hk2:=HK.out.below bb (by simp)
   have r0:w2.cell? ⟨w.1.size,0,none⟩ = some (O U 0):=hk2.cell 0
   have r1:w2.cell? ⟨w.1.size,1,none⟩ = some (O U 0):=hk2.cell 1
   have f0:=hk2.frozen 0
   have f1:=hk2.frozen 1
   have H2:=hid hk2
   have B2:=hid (((Below.refl w.1.size w).alloc (lr _) _).trans (bb.mono (by simp)))
   clear b2 bb hk2 B1
   go_wp2_with fail
   obtain ⟨w9,e9,⟨d0,d1⟩,hb⟩:=Oc (x:=O U t) (y:=O U z) H2.out B2.out (lr _)
   rw [e9]
   exact bodyPost_ret (v:=σ #[O U t,O U z]) (by simp [results,results148,go_sem,d0,d1]) rfl ⟨rfl,hb⟩
  ·rw [Mq (fun h'=>h h'.2)]
   rw [decide_eq_false h] at D
   clear hk h
   go_enter func148,ntmps148
   go_wp2_with fail
   refine (C.out _).mono ?_;rintro e w' ⟨rfl,rfl⟩
   go_wp2_with fail
   refine (D.out _).mono ?_;rintro e w2 ⟨rfl,b2⟩
   have hk2:=HK.out.below b2 (by simp)
   have r0:w2.cell? ⟨w.1.size,0,none⟩ = some (O U 0):=hk2.cell 0
   have r1:w2.cell? ⟨w.1.size,1,none⟩ = some (O U 0):=hk2.cell 1
   have f0:=hk2.frozen 0
   have f1:=hk2.frozen 1
   have H2:=hid hk2
   have B2:=hid (((Below.refl w.1.size w).alloc (lr _) _).trans (b2.mono (by simp)))
   clear b2 hk2
   go_wp2_with fail
   obtain ⟨w9,e9,⟨d0,d1⟩,hb⟩:=Oc (x:=O U 0) (y:=O U 0) H2.out B2.out (lr _)
   rw [e9]
   exact bodyPost_ret (v:=σ #[O U 0,O U 0]) (by simp [results,results148,go_sem,d0,d1]) rfl ⟨rfl,hb⟩
 ·have C:=hid (fun w=>GJ key w (by unfold Fc at hk;omega))
  rw [Mq (fun h'=>hk h'.1)]
  clear hk
  go_enter func148,ntmps148
  go_wp2_with fail
  refine (C.out _).mono ?_;rintro e w' ⟨rfl,rfl⟩
  go_wp2_with fail
  exact bodyPost_ret (v:=σ #[O U 0,O U 0]) (by simp [results,results148,go_sem]) rfl ⟨rfl,(Below.refl _ _).alloc (lr _) _⟩
theorem FK (key a t v:Int) (w:World):
    Calls prog 198 #[O U key,O U a,σ #[O U t,O U v]] w fun e w'=>e = τ (O U (Av key a t v)) /\ Below w.1.size w w':=by
 have HK:=hid (Aa.new w 118 #[O U t,O U v])
 by_cases hk:Fc key
 ·have C:=hid (fun w=>EB key w hk.1 hk.2)
  by_cases ha:isAt a
  ·have D:=hid (fun w=>Lj a w ha)
   have E:=hid (fun w=>AQ t v w)
   by_cases h:AO t v
   ·rw [GP hk ha h]
    rw [decide_eq_true h] at E
    have F:=hid (fun w=>Ke key a t v w ⟨by have:=ha.1;omega,by have:=ha.2;omega⟩ ⟨by have:=h.1.1;omega,by have:=h.1.2;omega⟩)
    generalize Gv key a t v = z at F
    clear hk ha h
    go_enter func198,ntmps198
    go_wp2_with fail
    refine (C.out _).mono ?_;rintro e w' ⟨rfl,rfl⟩
    go_wp2_with fail
    refine (D.out _).mono ?_;rintro e w' ⟨rfl,rfl⟩
    go_wp2_with fail
    refine (E.out _).mono ?_;rintro e w2 ⟨rfl,b2⟩
    have hk2:=HK.out.below b2 (by simp)
    have r0:w2.cell? ⟨w.1.size,0,none⟩ = some (O U t):=hk2.cell 0
    have r1:w2.cell? ⟨w.1.size,1,none⟩ = some (O U v):=hk2.cell 1
    have B2:=hid (((Below.refl w.1.size w).alloc (lr _) _).trans (b2.mono (by simp)))
    clear b2 hk2
    go_wp2_with fail
    refine (F.out _).mono ?_;rintro e w3 ⟨rfl,b3⟩
    have B3:=hid (B2.out.trans (b3.mono B2.out.size))
    clear b3
    go_wp2_with fail
    go_ret
    exact ⟨rfl,B3.out⟩
   ·rw [Ig (fun h'=>h h'.2.2)]
    rw [decide_eq_false h] at E
    clear hk ha h
    go_enter func198,ntmps198
    go_wp2_with fail
    refine (C.out _).mono ?_;rintro e w' ⟨rfl,rfl⟩
    go_wp2_with fail
    refine (D.out _).mono ?_;rintro e w' ⟨rfl,rfl⟩
    go_wp2_with fail
    refine (E.out _).mono ?_;rintro e w2 ⟨rfl,b2⟩
    have B2:=hid (((Below.refl w.1.size w).alloc (lr _) _).trans (b2.mono (by simp)))
    clear b2
    go_wp2_with fail
    go_ret
    exact ⟨rfl,B2.out⟩
  ·have D:=hid (fun w=>PZ a w ha)
   rw [Ig (fun h'=>ha h'.2.1)]
   clear hk ha
   go_enter func198,ntmps198
   go_wp2_with fail
   refine (C.out _).mono ?_;rintro e w' ⟨rfl,rfl⟩
   go_wp2_with fail
   refine (D.out _).mono ?_;rintro e w' ⟨rfl,rfl⟩
   go_wp2_with fail
   go_ret
   exact ⟨rfl,(Below.refl _ _).alloc (lr _) _⟩
 ·have C:=hid (fun w=>GJ key w (by unfold Fc at hk;omega))
  rw [Ig (fun h'=>hk h'.1)]
  clear hk
  go_enter func198,ntmps198
  go_wp2_with fail
  refine (C.out _).mono ?_;rintro e w' ⟨rfl,rfl⟩
  go_wp2_with fail
  go_ret
  exact ⟨rfl,(Below.refl _ _).alloc (lr _) _⟩
theorem Lu {w w1:World} {r:Nat} {x y z x0 y0 z0:Value} (hk:Aa w1 r 159 #[x0,y0,z0]) (hb:Below w.1.size w w1) (hr:w.1.size <= r):
    ∃ w4,((w1.setCell ⟨r,0,none⟩ x).setCell ⟨r,1,none⟩ y).setCell ⟨r,2,none⟩ z = w4 /\ (w4.cell? ⟨r,0,none⟩ = some x /\ w4.cell? ⟨r,1,none⟩ = some y /\ w4.cell? ⟨r,2,none⟩ = some z) /\ Below w.1.size w w4:=by
 have h:=((hk.set_ 0 x).set_ 1 y).set_ 2 z
 exact ⟨_,rfl,⟨h.cell 0,h.cell 1,h.cell 2⟩,((hb.setCell (p:=⟨r,0,none⟩) hr x).setCell (p:=⟨r,1,none⟩) hr y).setCell (p:=⟨r,2,none⟩) hr z⟩
theorem CU (a t v:Int) (w:World):
    Calls prog 149 #[O U a,σ #[O U t,O U v]] w fun e w'=>e = τ (σ #[O U (Ag a t v).1,O U (Ag a t v).2.1,O U (Ag a t v).2.2]) /\ Below w.1.size w w':=by
 have k0:=((((Kept.refl w).new 118 #[O U t,O U v]).new 159 #[O U 0,O U 0,O U 0]).new 159 #[O U a,O U t,O U v])
 rw [show ((w.alloc (.cells #[O U t,O U v] 118)).alloc (.cells #[O U 0,O U 0,O U 0] 159)).1.size = w.1.size + 1 + 1 by simp,show (w.alloc (.cells #[O U t,O U v] 118)).1.size = w.1.size + 1 by simp] at k0
 have K0:=hid k0
 clear k0
 have D:=hid (fun w=>CV a t v w)
 by_cases h:Dc a t v
 have z_1:=trivial;rotate_left;have z_2:=trivial;rotate_left
 all_goals
  first
   | guard_hyp z_1
     rw [Gs h]
     rw [decide_eq_true h] at D
   | rw [JR h]
     rw [decide_eq_false h] at D
  clear h
  go_enter func149,ntmps149
  go_wp2_with fail
  refine (D.out _).mono ?_;rintro e w1 ⟨rfl,b1⟩
  have k1:=K0.out.below b1
  first
   | guard_hyp z_1
     obtain ⟨e0,e1,e2⟩:=k1.three
   | skip
  obtain ⟨r0,r1,r2⟩:=k1.tail.three
  have f0:=k1.tail.frozen (List.mem_cons_self ..) 0
  have f1:=k1.tail.frozen (List.mem_cons_self ..) 1
  have f2:=k1.tail.frozen (List.mem_cons_self ..) 2
  have K1:=hid k1
  clear b1 k1
  go_wp2_with fail
  first
   | guard_hyp z_1
     obtain ⟨w9,e9,⟨d0,d1,d2⟩,hb⟩:=Lu (x:=O U a) (y:=O U t) (z:=O U v) (K1.out.tail.at_ (List.mem_cons_self ..)) K1.out.1 (Nat.le_succ _)
   | obtain ⟨w9,e9,⟨d0,d1,d2⟩,hb⟩:=Lu (x:=O U 0) (y:=O U 0) (z:=O U 0) (K1.out.tail.at_ (List.mem_cons_self ..)) K1.out.1 (Nat.le_succ _)
  rw [e9]
  first
   | guard_hyp z_1
     exact bodyPost_ret (v:=σ #[O U a,O U t,O U v]) (by simp [results,results149,go_sem,d0,d1,d2]) rfl ⟨rfl,hb⟩
   | exact bodyPost_ret (v:=σ #[O U 0,O U 0,O U 0]) (by simp [results,results149,go_sem,d0,d1,d2]) rfl ⟨rfl,hb⟩
abbrev Ce:=Int × Int
theorem Sc:(prog.info? 118).map (fun i=>(i.zero,i.size,i.bytes)) = some (some (σ #[O U 0,O U 0]),2,16):=by kernel_rfl
theorem OL:∃ i,prog.info? 118 = some i /\ i.zero = some (σ #[O U 0,O U 0]) /\ i.size = 2 /\ i.bytes = 16:=by
 obtain ⟨i,hi,hzz⟩:=Option.map_eq_some_iff.1 Sc
 simp only [Prod.mk.injEq] at hzz
 exact ⟨i,hi,hzz⟩
def Ces (w:World) (B:Nat) (A:Option Addr) (L:List Ce):Prop:=
 ∀ i,i < L.length -> ∃ b off,A = some ⟨b,off,none⟩ /\ b < B /\ w.cell? ⟨b,off + i * 2,none⟩ = some (O U (L.getD i (0,0)).1) /\ w.cell? ⟨b,off + i * 2 + 1,none⟩ = some (O U (L.getD i (0,0)).2)
theorem Ces.below {w w':World} {B B':Nat} {A:Option Addr} {L:List Ce} (h:Ces w B A L) (hb:Below B' w w') (hB:B <= B'):Ces w' B A L:=by
 intro i hi
 obtain ⟨b,off,rfl,hlt,c0,c1⟩:=h i hi
 have f:=fun o=>hb.cell (p:=⟨b,o,none⟩) (Nat.lt_of_lt_of_le hlt hB)
 exact ⟨b,off,rfl,hlt,(f _).trans c0,(f _).trans c1⟩
def ML (L:List Ce):List Value:=L.flatMap fun T=>[O U T.1,O U T.2]
theorem Pq (L:List Ce) (t v:Int):ML (L ++ [(t,v)]) = ML L ++ [O U t,O U v]:=by simp [ML]
def CRow (w:World) (base:Nat) (v:Value) (L:List Ce):Prop:=w.ownsRow base 118 2 v L.length (ML L)
theorem CRow.kept {w w':World} {base:Nat} {r:Option Nat} {v:Value} {L:List Ce} (h:CRow w base v L) (hg:w.grownBy w' r) (hb:v.ownBlock = none \/ v.ownBlock ≠ r):CRow w' base v L:=World.ownsRow.kept h hg hb
theorem CRow.grown {w w':World} {base g:Nat} {v:Value} {L:List Ce} (h:CRow w base v L) (hg:w.grownBy w' (some g)) (hb:g < base):CRow w' base v L:=by
 refine World.ownsRow.kept h hg ?_
 cases e:v.ownBlock with
 | none=>exact .inl rfl
 | some k=>exact .inr (by intro e2;injection e2 with e2;have:=(World.ownsRow.lt h k e).1;omega)
theorem CRow.alloc {w:World} {base:Nat} {v:Value} {L:List Ce} (h:CRow w base v L) (o:Obj):CRow (w.alloc o) base v L:=World.ownsRow.alloc h o
theorem CRow.below {w w':World} {base:Nat} {v:Value} {L:List Ce} (h:CRow w base v L) (hb:Below w.1.size w w'):CRow w' base v L:=
 h.kept (BV hb none) (by cases e:v.ownBlock with | none=>exact .inl rfl | some k=>exact .inr (by intro e2;cases e2))
theorem CRow.snoc {w':World} {base:Nat} {v:Value} {L:List Ce} {t z:Int} (hw:w'.ownsRow base 118 2 v (L.length + 1) (ML L ++ [O U t,O U z])):CRow w' base v (L ++ [(t,z)]):=by
 unfold CRow
 rw [List.length_append,Pq]
 exact hw
theorem CRow.made (w:World) (base:Nat) (h:base <= w.1.size):CRow (w.alloc (.cells #[] 118)) base (ψ (some ⟨w.1.size,0,none⟩) 0 0) []:=World.ownsRow_made w #[] 0 h (by simp [maxLen]) rfl
theorem CRow.mono {w:World} {base base':Nat} {v:Value} {L:List Ce} (h:CRow w base v L) (hb:base' <= base):CRow w base' v L:=by
 refine ⟨h.1,?_⟩
 rcases h.2 with h0 | ⟨g,cap,cur,e,hg,r⟩
 ·exact .inl h0
 ·exact .inr ⟨g,cap,cur,e,Nat.le_trans hb hg,r⟩
theorem TRow.below {w w':World} {base:Nat} {v:Value} {L:List Tri} (h:TRow w base v L) (hb:Below w.1.size w w'):TRow w' base v L:=
 ⟨h.1.kept (BV hb none) (by cases e:v.ownBlock with | none=>exact .inl rfl | some k=>exact .inr (by intro e2;cases e2)),h.2⟩
theorem Dh {P:Program} (w:World) (dT sT ty elem:TypeId) (g o dLen dCap:Nat) (a:Addr) (sLen sCap:Nat) (cur:Array Value) (t:TypeId) (cs:List Value) (s:Nat)
    (hu:P.underlying dT = some (.slice elem)) (hs:(P.info? elem).map (·.size) = some s) (hg:w.1[g]? = some (.cells cur t (0,0))) (hn:cs.length = Nat.min sLen dLen * s)
    (hsrc:∀ j v,cs[j]? = some v -> w.cell? (a.add j) = some v) (hfit:o + cs.length <= cur.size) (h1:∀ v ∈ cs,v.oneCell' = true):
    (Builtin.copy_ #[dT,sT] ty #[ψ (some ⟨g,o,none⟩) dLen dCap,ψ (some a) sLen sCap]).run P w = .ok (goInt (Nat.min sLen dLen)) (w.setRow g (cur.toList.take o ++ cs ++ cur.toList.drop (o + cs.length)).toArray):=by
 have hl:=run_loadCells_list (P:=P) w a cs hsrc
 have hst:=run_storeCells_at P g o t cs 0 cur w hg (by simpa using hfit) h1
 cases hq:P.info? elem with
 | none=>simp [hq] at hs
 | some i=>
   have hi:i.size = s:=by simpa [hq] using hs
   have hl':(loadCells a (Nat.min sLen dLen * s)).run P w = .ok cs.toArray w:=by rw [<- hn];exact hl
   simp [Builtin.copy_,run_underlying hu,Builtin.lenOf,Builtin.firstCells,sizeOf,typeInfo,hq,hi,hl',hst]
def upTo (l:List Int) (k:Nat):Int:=(l.take k).foldl (· + ·) 0
theorem DS (l:List Int):upTo l 0 = 0:=by simp [upTo]
theorem Dd (l:List Int) {k:Nat} (h:k < l.length):upTo l (k + 1) = upTo l k + l.getD k 0:=by
 unfold upTo
 rw [List.take_succ_eq_append_getElem h,List.foldl_append,List.getD_eq_getElem?_getD,List.getElem?_eq_getElem h]
 rfl
def AL (l:List Int):Prop:=∀ i,i < l.length -> 1 <= l.getD i 0 /\ l.getD i 0 <= 8
def Ay (key:Int) (l:List Int):Prop:=(1 <= key /\ key <= 1000000) /\ (1 <= l.length /\ l.length <= 4) /\ AL l /\ upTo l l.length <= 24
theorem Cy {l:List Int} (h:AL l) {i j:Nat} (hij:i <= j) (hj:j <= l.length):upTo l i + ((j - i:Nat):Int) <= upTo l j:=by
 induction j with
 | zero=>obtain rfl:i = 0:=by omega
         simp
 | succ j ih=>
   rcases Nat.lt_or_ge j i with hlt | hge
   ·obtain rfl:i = j + 1:=by omega
    simp
   ·have h1:=ih hge (by omega)
    have h2:=(h j (by omega)).1
    rw [Dd l (by omega)]
    omega
theorem Dl {l:List Int} (h:AL l) {k:Nat} (hk:k <= l.length):0 <= upTo l k /\ upTo l k <= 8 * k:=by
 induction k with
 | zero=>rw [DS];omega
 | succ k ih=>
   have h1:=ih (by omega)
   have h2:=h k (by omega)
   rw [Dd l (by omega)]
   omega
open Classical in
noncomputable def Bi (key:Int) (l:List Int):Int:=if Ay key l then upTo l l.length else -1
open Classical in
noncomputable def Ad (key:Int) (l:List Int) (r:Int):Int:=if Ay key l /\ 0 <= r /\ r < l.length then upTo l r.toNat else -1
def EC (l:List Int) (at_ r:Int):Prop:=(∃ i:Nat,i < l.length /\ r = i /\ upTo l i <= at_ /\ at_ < upTo l (i + 1)) \/ (r = -1 /\ upTo l l.length <= at_)
theorem EC.one {l:List Int} (h:AL l) {at_ r r':Int} (h1:EC l at_ r) (h2:EC l at_ r'):r = r':=by
 have lem:∀ i j:Nat,i < l.length -> j < l.length -> upTo l i <= at_ -> at_ < upTo l (j + 1) -> i <= j:=by
  intro i j hi hj a b
  refine Nat.le_of_not_lt fun hlt=>?_
  have:=Cy h (show j + 1 <= i by omega) (by omega)
  omega
 rcases h1 with ⟨i,hi,rfl,a,b⟩ | ⟨rfl,a⟩
 ·rcases h2 with ⟨j,hj,rfl,c,d⟩ | ⟨rfl,c⟩
  ·have:=lem i j hi hj a d
   have:=lem j i hj hi c b
   omega
  ·have:=Cy h (show i + 1 <= l.length by omega) (lr _)
   omega
 ·rcases h2 with ⟨j,hj,rfl,c,d⟩ | ⟨rfl,c⟩
  ·have:=Cy h (show j + 1 <= l.length by omega) (lr _)
   omega
  ·rfl
def Gp (l:List Int) (at_:Int):Nat -> Nat -> Int
 | _,0=>-1
 | i,n + 1=>if at_ < upTo l (i + 1) then i else Gp l at_ (i + 1) n
theorem Hq {l:List Int} {at_:Int}:∀ (n i:Nat),i + n = l.length -> upTo l i <= at_ -> EC l at_ (Gp l at_ i n):=by
 intro n
 induction n with
 | zero=>intro i hi h;obtain rfl:i = l.length:=by omega
         exact .inr ⟨rfl,h⟩
 | succ n ih=>
   intro i hi h
   unfold Gp
   by_cases hlt:at_ < upTo l (i + 1)
   ·rw [if_pos hlt];exact .inl ⟨i,by omega,rfl,h,hlt⟩
   ·rw [if_neg hlt];exact ih (i + 1) (by omega) (by omega)
open Classical in
noncomputable def Am (key:Int) (l:List Int) (at_:Int):Int:=if Ay key l /\ 0 <= at_ then Gp l at_ 0 l.length else -1
theorem Nj {key:Int} {l:List Int} {at_ r:Int} (h:Ay key l) (h0:0 <= at_) (hr:EC l at_ r):Am key l at_ = r:=by
 unfold Am
 rw [if_pos ⟨h,h0⟩]
 exact (Hq l.length 0 (by omega) (by rw [DS];exact h0)).one h.2.2.1 hr
theorem GN {key:Int} {l:List Int} {at_:Int} (h:¬ (Ay key l /\ 0 <= at_)):Am key l at_ = -1:=by unfold Am;rw [if_neg h]
theorem Cs {key:Int} {l:List Int} {r:Nat} (h:Ay key l) (hr:r < l.length):Ad key l r = upTo l r:=by
 unfold Ad;rw [if_pos ⟨h,by omega,by omega⟩];simp
theorem Gl {key:Int} {l:List Int} {r:Int} (h:¬ (Ay key l /\ 0 <= r /\ r < l.length)):Ad key l r = -1:=by unfold Ad;rw [if_neg h]
theorem Hy {key:Int} {l:List Int} (h:Ay key l):Bi key l = upTo l l.length:=by unfold Bi;rw [if_pos h]
theorem IZ {key:Int} {l:List Int} (h:¬ Ay key l):Bi key l = -1:=by unfold Bi;rw [if_neg h]

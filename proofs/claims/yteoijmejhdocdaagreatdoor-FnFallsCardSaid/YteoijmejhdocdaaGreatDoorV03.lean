import Derived.Test.YteoijmejhdocdaaGreatDoorV02
import Derived.Maps.AppendAt
import Derived.Deep.Upon
import Derived.Deep.AppendLies
import Derived.Great.BuildSlice
import Derived.Test.YteoijmejhdocdaaGreatDoorRows
import Derived.OpenShut
import Derived.Outline
namespace Go.Proofs.YteoijmejhdocdaaGreatDoor.Mx
open Go.ChangeShapes Go.WideShapes Go.ChangeAt Go.RowKit
set_option linter.unusedVariables false
open Go.Lib (hid)
open Go.Proofs.Tryz
set_option maxRecDepth 20000
set_option maxHeartbeats 64000000
open Value renaming int → O, slice → ψ, bool → φ, agg → σ
open IntKind renaming i64 → U
open Ending renaming returned → τ
section
variable {α:Type} [Inhabited α] {enc:α -> List Value} {n:Nat} {T:TypeId} {w w':World} {B B' base base':Nat} {A:Option Addr} {L M:List α} {v:Value}
def Sls (enc:α -> List Value) (n:Nat) (w:World) (B:Nat) (A:Option Addr) (L:List α):Prop:=
 ∀ i,i < L.length -> ∃ b off,A = some ⟨b,off,none⟩ /\ b < B /\ ∀ j,j < n -> w.cell? ⟨b,off + i * n + j,none⟩ = (enc (L.getD i default))[j]?
theorem Sls.below (h:Sls enc n w B A L) (hb:Below B' w w') (hB:B <= B'):Sls enc n w' B A L:=by
 intro i hi
 obtain ⟨b,off,rfl,hlt,hc⟩:=h i hi
 exact ⟨b,off,rfl,hlt,fun j hj=>(hb.cell (p:=⟨b,off + i * n + j,none⟩) (Nat.lt_of_lt_of_le hlt hB)).trans (hc j hj)⟩
theorem Sls.more (h:Sls enc n w B A L) (hB:B <= B'):Sls enc n w B' A L:=by
 intro i hi
 obtain ⟨b,off,e,hlt,c⟩:=h i hi
 exact ⟨b,off,e,by omega,c⟩
theorem Sls.grow (h:Sls enc n w w.1.size A L) (hb:Below w.1.size w w'):Sls enc n w' w'.1.size A L:=(h.below hb (lr _)).more hb.size
theorem Sls.nil:Sls enc n w B A []:=fun i hi=>by simp at hi
def Af (enc:α -> List Value) (L:List α):List Value:=L.flatMap enc
omit [Inhabited α] in
theorem LB (x:α):Af enc (L ++ [x]) = Af enc L ++ enc x:=by simp [Af]
omit [Inhabited α] in
theorem Nz:Af enc (L ++ M) = Af enc L ++ Af enc M:=by simp [Af]
omit [Inhabited α] in
theorem Ak (hn:∀ x,(enc x).length = n):(Af enc L).length = L.length * n:=by
 induction L with
 | nil=>simp [Af]
 | cons x L ih=>
   have:Af enc (x :: L) = enc x ++ Af enc L:=by simp [Af]
   rw [this,List.length_append,hn,ih,List.length_cons,Nat.succ_mul];omega
theorem Fm (hn:∀ x,(enc x).length = n) (i j:Nat) (hi:i < L.length) (hj:j < n):(Af enc L)[i * n + j]? = (enc (L.getD i default))[j]?:=by
 induction L generalizing i with
 | nil=>simp at hi
 | cons x L ih=>
   have hc:Af enc (x :: L) = enc x ++ Af enc L:=by simp [Af]
   rw [hc]
   cases i with
   | zero=>rw [List.getElem?_append_left (by rw [hn];omega)];simp
   | succ i=>
     rw [List.getElem?_append_right (by rw [hn,Nat.succ_mul];omega),hn,show (i + 1) * n + j - n = i * n + j by rw [Nat.succ_mul];omega,ih i (by simpa using hi)]
     simp
def SRow (enc:α -> List Value) (n:Nat) (T:TypeId) (w:World) (base:Nat) (v:Value) (L:List α):Prop:=w.ownsRow base T n v L.length (Af enc L)
omit [Inhabited α] in
theorem SRow.kept {r:Option Nat} (h:SRow enc n T w base v L) (hg:w.grownBy w' r) (hb:v.ownBlock = none \/ v.ownBlock ≠ r):SRow enc n T w' base v L:=World.ownsRow.kept h hg hb
omit [Inhabited α] in
theorem SRow.lt (h:SRow enc n T w base v L) {g:Nat} (hg:v.ownBlock = some g):base <= g /\ g < w.1.size:=World.ownsRow.lt h g hg
omit [Inhabited α] in
theorem SRow.grown {g:Nat} (h:SRow enc n T w base v L) (hg:w.grownBy w' (some g)) (hb:g < base):SRow enc n T w' base v L:=by
 refine h.kept hg ?_
 cases e:v.ownBlock with
 | none=>exact .inl rfl
 | some k=>exact .inr (by intro e2;injection e2 with e2;have:=(h.lt e).1;omega)
omit [Inhabited α] in
theorem SRow.alloc (h:SRow enc n T w base v L) (o:Obj):SRow enc n T (w.alloc o) base v L:=World.ownsRow.alloc h o
omit [Inhabited α] in
theorem SRow.below (h:SRow enc n T w base v L) (hb:Below w.1.size w w'):SRow enc n T w' base v L:=
 h.kept (BV hb none) (by cases e:v.ownBlock with | none=>exact .inl rfl | some k=>exact .inr (by intro e2;cases e2))
omit [Inhabited α] in
theorem SRow.made (w:World) (h:base <= w.1.size):SRow enc n T (w.alloc (.cells #[] T)) base (ψ (some ⟨w.1.size,0,none⟩) 0 0) ([]:List α):=World.ownsRow_made w #[] 0 h (by simp [maxLen]) (by simp)
omit [Inhabited α] in
theorem SRow.mono (h:SRow enc n T w base v L) (hb:base' <= base):SRow enc n T w base' v L:=by
 refine ⟨h.1,?_⟩
 rcases h.2 with h0 | ⟨g,cap,cur,e,hg,r⟩
 ·exact .inl h0
 ·exact .inr ⟨g,cap,cur,e,Nat.le_trans hb hg,r⟩
theorem SRow.reads (hn:∀ x,(enc x).length = n) (h:SRow enc n T w base v L):∃ A c,v = ψ A L.length c /\ Sls enc n w w.1.size A L /\ L.length <= c:=by
 rcases h.2 with ⟨rfl,h0⟩ | ⟨g,cap,cur,rfl,hb,hg,hnc,hcm,hcs,htake⟩
 ·have:L = []:=List.length_eq_zero_iff.1 h0
  subst this
  exact ⟨none,0,rfl,Sls.nil,lr _⟩
 ·refine ⟨_,cap,rfl,fun i hi=>⟨g,0,rfl,(Array.getElem?_eq_some_iff.1 hg).1,fun j hj=>?_⟩,hnc⟩
  have hlt:i * n + j < L.length * n:=by
   have:(i + 1) * n <= L.length * n:=Nat.mul_le_mul_right n hi
   rw [Nat.succ_mul] at this;omega
  rw [Nat.zero_add,World.ownsRow.cellAt h (i * n + j) hlt,Fm hn i j hi hj]
theorem Sls.news (hn:∀ x,(enc x).length = n) (hp:0 < n) (h:Sls enc n w B A L):∀ j u,(Af enc L)[j]? = some u -> ∃ ad,A = some ad /\ w.cell? (ad.add j) = some u:=by
 intro j u hu
 have hj:j < L.length * n:=by have:=(List.getElem?_eq_some_iff.1 hu).1;rwa [Ak hn] at this
 have hi:j / n < L.length:=(Nat.div_lt_iff_lt_mul hp).2 hj
 obtain ⟨b,off,rfl,_,hc⟩:=h (j / n) hi
 refine ⟨_,rfl,?_⟩
 have hm:=Nat.mod_lt j hp
 have he:j / n * n + j % n = j:=by rw [Nat.mul_comm];exact Nat.div_add_mod j n
 rw [Addr.add_mid,show off + j = off + j / n * n + j % n by omega,hc _ hm,<- Fm hn _ _ hi hm,he,hu]
end
theorem GH {P:Program} {w:World} {base:Nat} {t ty e:TypeId} {size bytes n:Nat} {z:Value} {v:Value} {xs:List Value} {A:Option Addr} {m c:Nat} {news:List Value}
    (ht:P.underlying t = some (.slice e)) (hi:(P.info? e).map (fun i=>(i.zero,i.size,i.bytes)) = some (some z,size,bytes)) (hzs:z.cells.size = size) (hsz:0 < size)
    (hown:w.ownsRow base e size v n xs) (hl:news.length = m * size) (hnews:∀ j u,news[j]? = some u -> ∃ ad,A = some ad /\ w.cell? (ad.add j) = some u) (h1:∀ u ∈ news,u.oneCell' = true)
    (h63:n + m <= maxLen) (hbytes:(n + m) * bytes <= 140737488355328) (hbase:base <= w.1.size):
    ∃ v' w',(Builtin.append_ #[t,t] ty #[v,ψ A m c]).run P w = .ok v' w' /\ w'.ownsRow base e size v' (n + m) (xs ++ news) /\ w.grownBy w' v.ownBlock /\ (v'.ownBlock = v.ownBlock \/ v'.ownBlock = some w.1.size):=by
 obtain ⟨i,hi0,hi1⟩:=Option.map_eq_some_iff.1 hi
 simp only [Prod.mk.injEq] at hi1
 obtain ⟨hz,hsize,hby⟩:=hi1
 cases A with
 | some ad=>
   obtain ⟨v',w',hr,h2,h3,_,h5⟩:=run_append_own_at (P:=P) w base t ty e i z size bytes ht hi0 hz hsize hby hzs hsz v n xs hown ad m c news hl (fun j u hu=>by obtain ⟨ad',e,hc⟩:=hnews j u hu;injection e with e;rw [e];exact hc) h1 h63 hbytes hbase
   exact ⟨v',w',hr,h2,h3,h5⟩
 | none=>
   have hnil:news = []:=by
    cases news with
    | nil=>rfl
    | cons u r=>obtain ⟨ad,e,_⟩:=hnews 0 u rfl;cases e
   subst hnil
   have hm0:m = 0:=by
    rcases Nat.eq_zero_or_pos m with h | h
    ·exact h
    ·have:=Nat.mul_pos h hsz;simp at hl;omega
   subst hm0
   obtain ⟨bse,cp,hv,hle⟩:∃ bse cp,v = ψ bse n cp /\ n <= cp:=by
    rcases hown.2 with ⟨rfl,rfl⟩ | ⟨g,cap,cur,rfl,_,_,hnc,_⟩
    ·exact ⟨none,0,rfl,lr _⟩
    ·exact ⟨_,cap,rfl,hnc⟩
   refine ⟨v,w,?_,by simpa using hown,Aj _ _,.inl rfl⟩
   rw [hv]
   exact run_append_nothing (P:=P) w t t ty e i ht hi0 bse n cp hle _ (Src.ofNil w ht c)
theorem LJ {P:Program} {w:World} {o:Oper} {a:Act} {K:Act -> World -> Prop} {Q:Exit -> Act -> World -> Prop} (s x:Operand) (t:TypeId)
    (ho:o.op = .call { callee:=.builtin .append,args:=#[s,x],argTypes:=#[t,t] }) (base:Nat) (e:TypeId) (size bytes n:Nat) (z v:Value) (xs:List Value) (A:Option Addr) (m c:Nat) (news:List Value)
    (ht:P.underlying t = some (.slice e)) (hi:(P.info? e).map (fun i=>(i.zero,i.size,i.bytes)) = some (some z,size,bytes)) (hzs:z.cells.size = size) (hsz:0 < size)
    (hs:a.eval s = v) (hown:w.ownsRow base e size v n xs) (hx:a.eval x = ψ A m c) (hl:news.length = m * size) (hnews:∀ j u,news[j]? = some u -> ∃ ad,A = some ad /\ w.cell? (ad.add j) = some u) (h1:∀ u ∈ news,u.oneCell' = true)
    (h63:n + m <= maxLen) (hbytes:(n + m) * bytes <= 140737488355328) (hbase:base <= w.1.size)
    (h:∀ v' w',w'.ownsRow base e size v' (n + m) (xs ++ news) -> w.grownBy w' v.ownBlock -> (v'.ownBlock = v.ownBlock \/ v'.ownBlock = some w.1.size) -> K (a.put o.dst v') w'):o.wp P a w K Q:=by
 obtain ⟨v',w',hr,h2,h3,h4⟩:=GH (ty:=o.type) (c:=c) ht hi hzs hsz hown hl hnews h1 h63 hbytes hbase
 unfold Oper.wp execOp
 simp only [ho,resolve,invoke,builtin,Sem.run_bind,Sem.run_pure,Result.andThen_ok,List.map_toArray,List.map_cons,List.map_nil,hs,hx,hr]
 exact h v' w' h2 h3 h4
theorem Cc {P:Program} {w:World} {ops:Array Oper} {rest:List Oper} {o:Oper} {a:Act} {Q:Exit -> Act -> World -> Prop} (hgd:o.guard = none) (s x:Operand) (t:TypeId)
    (ho:o.op = .call { callee:=.builtin .append,args:=#[s,x],argTypes:=#[t,t] }) (base:Nat) (e:TypeId) (size bytes n:Nat) (z v:Value) (xs:List Value) (A:Option Addr) (m c:Nat) (news:List Value)
    (ht:P.underlying t = some (.slice e)) (hi:(P.info? e).map (fun i=>(i.zero,i.size,i.bytes)) = some (some z,size,bytes)) (hzs:z.cells.size = size) (hsz:0 < size)
    (hs:a.eval s = v) (hown:w.ownsRow base e size v n xs) (hx:a.eval x = ψ A m c) (hl:news.length = m * size) (hnews:∀ j u,news[j]? = some u -> ∃ ad,A = some ad /\ w.cell? (ad.add j) = some u) (h1:∀ u ∈ news,u.oneCell' = true)
    (h63:n + m <= maxLen) (hbytes:(n + m) * bytes <= 140737488355328) (hbase:base <= w.1.size)
    (h:∀ v' w',w'.ownsRow base e size v' (n + m) (xs ++ news) -> w.grownBy w' v.ownBlock -> (v'.ownBlock = v.ownBlock \/ v'.ownBlock = some w.1.size) -> wpList P ops Q rest (a.put o.dst v') w'):wpList P ops Q (o :: rest) a w:=
 wpList_plain hgd fun _ hK=>LJ s x t ho base e size bytes n z v xs A m c news ht hi hzs hsz hs hown hx hl hnews h1 h63 hbytes hbase fun v' w' h2 h3 h4=>hK _ _ (h v' w' h2 h3 h4)
theorem Cr {P:Program} {ρ:Operand -> Value} {w:World} {o:Oper} {K:Value -> World -> Prop} (s x:Operand) (t:TypeId)
    (ho:o.op = .call { callee:=.builtin .append,args:=#[s,x],argTypes:=#[t,t] }) (base:Nat) (e:TypeId) (size bytes n:Nat) (z v:Value) (xs:List Value) (A:Option Addr) (m c:Nat) (news:List Value)
    (ht:P.underlying t = some (.slice e)) (hi:(P.info? e).map (fun i=>(i.zero,i.size,i.bytes)) = some (some z,size,bytes)) (hzs:z.cells.size = size) (hsz:0 < size)
    (hs:ρ s = v) (hown:w.ownsRow base e size v n xs) (hx:ρ x = ψ A m c) (hl:news.length = m * size) (hnews:∀ j u,news[j]? = some u -> ∃ ad,A = some ad /\ w.cell? (ad.add j) = some u) (h1:∀ u ∈ news,u.oneCell' = true)
    (h63:n + m <= maxLen) (hbytes:(n + m) * bytes <= 140737488355328) (hbase:base <= w.1.size)
    (h:∀ v' w',w'.ownsRow base e size v' (n + m) (xs ++ news) -> w.grownBy w' v.ownBlock -> (v'.ownBlock = v.ownBlock \/ v'.ownBlock = some w.1.size) -> K v' w'):Bt P ((execOp ρ o).run P w) K:=by
 obtain ⟨v',w',hr,h2,h3,h4⟩:=GH (ty:=o.type) (c:=c) ht hi hzs hsz hown hl hnews h1 h63 hbytes hbase
 have e2:(execOp ρ o).run P w = .ok (.value v') w':=by
  unfold execOp
  simp only [ho,resolve,invoke,builtin,Sem.run_bind,Sem.run_pure,Result.andThen_ok,List.map_toArray,List.map_cons,List.map_nil,hs,hx,hr]
 rw [e2]
 exact h v' w' h2 h3 h4
theorem GV {P:Program} {ρ:Operand -> Value} {w:World} {o:Oper} {K:Value -> World -> Prop} (t e:TypeId) (len size bytes:Nat) (z:Value) (parts:Array (Nat × Operand)) (cells:Array Value) (ho:o.op = .buildSlice t len parts)
    (ht:P.underlying t = some (.slice e)) (hi:(P.info? e).map (fun i=>(i.zero,i.size,i.bytes)) = some (some z,size,bytes)) (hs:¬ len * size > 2 ^ 24) (hp:¬ len * size = 0)
    (hf:Instr.fill (fun i=>some (i * size,size)) ((Array.range (len * size)).map (z.cells[· % z.cells.size]!)) (parts.map fun (i,x)=>(i,ρ x)).toList = some cells)
    (h:K (ψ (some ⟨w.1.size,0,none⟩) len len) (w.alloc (.cells cells e))):Bt P ((execOp ρ o).run P w) K:=by
 obtain ⟨i,hi0,hi1⟩:=Option.map_eq_some_iff.1 hi
 simp only [Prod.mk.injEq] at hi1
 obtain ⟨hz,rfl,rfl⟩:=hi1
 have e2:(execOp ρ o).run P w = .ok (.value (ψ (some ⟨w.1.size,0,none⟩) len len)) (w.alloc (.cells cells e)):=by
  unfold execOp
  simp only [ho,Sem.run_bind,run_buildSlice w t e len _ cells i z ht hi0 hz hs hp hf,Result.andThen_ok,Sem.run_pure]
 rw [e2]
 exact h
theorem BQ {P:Program} {ρ:Operand -> Value} {w:World} {o:Oper} {K:Value -> World -> Prop} (t e:TypeId) (ho:o.op = .buildSlice t 0 #[])
    (ht:P.underlying t = some (.slice e)) (hi:(P.info? e).isSome = true)
    (h:K (ψ (some ⟨w.1.size,0,none⟩) 0 0) (w.alloc (.cells #[] e))):Bt P ((execOp ρ o).run P w) K:=by
 obtain ⟨i,hi0⟩:=Option.isSome_iff_exists.1 hi
 have e2:(execOp ρ o).run P w = .ok (.value (ψ (some ⟨w.1.size,0,none⟩) 0 0)) (w.alloc (.cells #[] e)):=by
  unfold execOp
  simp [ho,Instr.buildSlice,run_underlying ht,sizeOf,typeInfo,hi0,newRow,newObj,Instr.fill,go_sem]
  rfl
 rw [e2]
 exact h
def Bf (a b:Int):Int:=if (0 <= a /\ a <= 4611686018427387903) /\ 0 <= b /\ b <= 4611686018427387903 then (a + b) % 4611686018427387904 else -1
theorem Qo (s:Int) (w:World) (h0:0 <= s) (h1:s <= 4611686018427387903):
    Calls prog 261 #[O U s] w fun e w'=>e = τ (φ true) /\ w = w':=by
 have h2:s < 4611686018427387904:=by omega
 go_enter func261,ntmps261
 go_wp2
 go_ret
 exact ⟨rfl,rfl⟩
theorem RA (s:Int) (w:World) (h:s < 0 \/ 4611686018427387903 < s):
    Calls prog 261 #[O U s] w fun e w'=>e = τ (φ false) /\ w = w':=by
 by_cases h0:0 <= s
 ·have h2:¬ s < 4611686018427387904:=by omega
  clear h
  go_enter func261,ntmps261
  go_wp2
  go_ret
  exact ⟨rfl,rfl⟩
 ·clear h
  go_enter func261,ntmps261
  go_wp2
  go_ret
  exact ⟨rfl,rfl⟩
theorem Bm (s lo hi:Int) (w:World) (h0:lo <= s) (h1:s <= hi):
    Calls prog 82 #[O U s,O U lo,O U hi] w fun e w'=>e = τ (φ true) /\ w = w':=by
 go_enter func82,ntmps82
 go_wp2
 go_ret
 exact ⟨rfl,rfl⟩
theorem DD (s lo hi:Int) (w:World) (h:s < lo \/ hi < s):
    Calls prog 82 #[O U s,O U lo,O U hi] w fun e w'=>e = τ (φ false) /\ w = w':=by
 by_cases h0:lo <= s
 ·have h2:¬ s <= hi:=by omega
  clear h
  go_enter func82,ntmps82
  go_wp2
  go_ret
  exact ⟨rfl,rfl⟩
 ·clear h
  go_enter func82,ntmps82
  go_wp2
  go_ret
  exact ⟨rfl,rfl⟩
theorem El (a b:Int) (w:World):
    Calls prog 206 #[O U a,O U b] w fun e w'=>e = τ (O U (Bf a b)) /\ w = w':=by
 by_cases ha:0 <= a /\ a <= 4611686018427387903
 ·obtain ⟨ha0,ha1⟩:=ha
  by_cases hb:0 <= b /\ b <= 4611686018427387903
  ·obtain ⟨hb0,hb1⟩:=hb
   have hf:Bf a b = (a + b) % 4611686018427387904:=by unfold Bf;rw [if_pos ⟨⟨ha0,ha1⟩,hb0,hb1⟩]
   rw [hf];clear hf
   go_enter func206,ntmps206
   go_wp2_with (go_at_call 82;refine (Bm _ _ _ _ (by omega) (by omega)).mono ?_;rintro e w' ⟨rfl,rfl⟩)
   go_ret
   exact ⟨rfl,rfl⟩
  ·have hb':b < 0 \/ 4611686018427387903 < b:=by omega
   have hf:Bf a b = -1:=by unfold Bf;rw [if_neg (by omega)]
   rw [hf];clear hf hb
   go_enter func206,ntmps206
   go_wp2_with fail
   refine (Bm _ _ _ _ ha0 ha1).mono ?_;rintro e w' ⟨rfl,rfl⟩
   go_wp2_with fail
   refine (DD _ _ _ _ hb').mono ?_;rintro e w' ⟨rfl,rfl⟩
   go_wp2
   go_ret
   exact ⟨rfl,rfl⟩
 ·have ha':a < 0 \/ 4611686018427387903 < a:=by omega
  have hf:Bf a b = -1:=by unfold Bf;rw [if_neg (by omega)]
  rw [hf];clear hf ha
  go_enter func206,ntmps206
  go_wp2_with (go_at_call 82;refine (DD _ _ _ _ ha').mono ?_;rintro e w' ⟨rfl,rfl⟩)
  go_ret
  exact ⟨rfl,rfl⟩
theorem Jm (s:Int) (w:World) (h0:1 <= s) (h1:s <= 1000000):
    Calls prog 135 #[O U s] w fun e w'=>e = τ (φ true) /\ w = w':=by
 go_enter func135,ntmps135
 go_wp2
 go_ret
 exact ⟨rfl,rfl⟩
theorem OE (s:Int) (w:World) (h:s < 1 \/ 1000000 < s):
    Calls prog 135 #[O U s] w fun e w'=>e = τ (φ false) /\ w = w':=by
 by_cases h0:1 <= s
 ·have h2:¬ s <= 1000000:=by omega
  clear h
  go_enter func135,ntmps135
  go_wp2
  go_ret
  exact ⟨rfl,rfl⟩
 ·clear h
  go_enter func135,ntmps135
  go_wp2
  go_ret
  exact ⟨rfl,rfl⟩
theorem Li (A:Option Addr) (l:List Int) (cap B:Nat) (w:World) (hn:l.length <= maxLen) (hA:Ints w U B A l) (hf:Fine l):
    Calls prog 240 #[ψ A l.length cap] w fun e w'=>e = τ (φ false) /\ w = w':=by
 unfold maxLen at hn
 go_enter func240,ntmps240
 go_wp2
 go_loop [7] (fun i=>∃ k:Nat,k <= l.length /\ i = O U k) (fun i=>l.length - (intOf i).toNat)
 case atStart=>exact ⟨0,Nat.zero_le _,rfl⟩
 case round=>
  obtain ⟨k,hk,rfl⟩:=hrel
  by_cases hlt:k < l.length
  ·obtain ⟨b,off,rfl,hb,hc⟩:=hA k hlt
   have hv0:=hf k hlt
   generalize l.getD k 0 = v at hc hv0
   clear hA hf
   go_wp2
   go_round
   case rel=>exact ⟨k + 1,by omega,by go_num⟩
   case measure=>simp [intOf];omega
  ·clear hA hf
   go_wp2
   go_ret
   exact ⟨rfl,rfl⟩
theorem Kh (A:Option Addr) (l:List Int) (cap B:Nat) (w:World) (hn:l.length <= maxLen) (hA:Ints w U B A l) (hf:∃ i,i < l.length /\ l.getD i 0 < 0):
    Calls prog 240 #[ψ A l.length cap] w fun e w'=>e = τ (φ true) /\ w = w':=by
 unfold maxLen at hn
 obtain ⟨j,hj,hjv⟩:=hf
 go_enter func240,ntmps240
 go_wp2
 go_loop [7] (fun i=>∃ k:Nat,k <= j /\ i = O U k) (fun i=>l.length - (intOf i).toNat)
 case atStart=>exact ⟨0,Nat.zero_le _,rfl⟩
 case round=>
  obtain ⟨k,hk,rfl⟩:=hrel
  have hlt:k < l.length:=by omega
  obtain ⟨b,off,rfl,hb,hc⟩:=hA k hlt
  clear hA
  by_cases hkj:k = j
  ·subst hkj
   generalize l.getD k 0 = v at hc hjv
   go_wp2
   go_ret
   exact ⟨rfl,rfl⟩
  ·have hkj':k < j:=by omega
   clear hkj hjv
   generalize l.getD k 0 = v at hc
   by_cases hv:v < 0
   ·go_wp2
    go_ret
    exact ⟨rfl,rfl⟩
   ·go_wp2
    go_round
    case rel=>exact ⟨k + 1,by omega,by go_num⟩
    case measure=>simp [intOf];omega
theorem Rm (s:Int) (A:Option Addr) (l:List Int) (cap B:Nat) (w:World) (hn:l.length <= maxLen) (hA:Ints w U B A l) (hf:Fine l) (hi:I64s l) (s0:0 <= s) (s1:s <= 2147483628):
    Calls prog 241 #[O U s,O U 131,O U 2147483647,ψ A l.length cap] w fun e w'=>e = τ (O U (roll 131 2147483647 s l)) /\ w = w':=by
 unfold maxLen at hn
 go_enter func241,ntmps241
 go_wp2
 go_loop [9,15] (fun r i=>∃ k:Nat,k <= l.length /\ i = O U k /\ r = O U (roll 131 2147483647 s (l.take k))) (fun _ i=>l.length - (intOf i).toNat)
 case atStart=>exact ⟨0,Nat.zero_le _,rfl,rfl⟩
 case round=>
  obtain ⟨k,hk,rfl,rfl⟩:=hrel
  by_cases hlt:k < l.length
  ·obtain ⟨b,off,rfl,hb,hc⟩:=hA k hlt
   have hv0:=hf k hlt
   have hv1:=(hi k hlt).2
   have hR:=DF 131 2147483647 s (l.take k) (by omega) s0 (by omega)
   have hst:=Hf 131 2147483647 s l k hlt
   have HS:=hid hst
   clear hst hA hf hi
   generalize l.getD k 0 = v at hc hv0 hv1 HS
   generalize roll 131 2147483647 s (l.take k) = R at hR HS
   obtain ⟨hR0,hR1⟩:=hR
   go_wp2
   go_round
   case rel=>exact ⟨k + 1,by omega,by go_num,by rw [HS.out]⟩
   case measure=>simp [intOf];omega
  ·have hk':k = l.length:=by omega
   clear hA hf hi
   have HR:roll 131 2147483647 s (l.take k) = roll 131 2147483647 s l:=by rw [hk',IH]
   rw [HR];clear HR
   go_wp2
   go_ret
   exact ⟨rfl,rfl⟩
theorem Rq (s:Int) (A:Option Addr) (l:List Int) (cap B:Nat) (w:World) (hn:l.length <= maxLen) (hA:Ints w U B A l) (hf:Fine l) (hi:I64s l) (s0:0 <= s) (s1:s <= 2147483628):
    Calls prog 241 #[O U s,O U 137,O U 2147483629,ψ A l.length cap] w fun e w'=>e = τ (O U (roll 137 2147483629 s l)) /\ w = w':=by
 unfold maxLen at hn
 go_enter func241,ntmps241
 go_wp2
 go_loop [9,15] (fun r i=>∃ k:Nat,k <= l.length /\ i = O U k /\ r = O U (roll 137 2147483629 s (l.take k))) (fun _ i=>l.length - (intOf i).toNat)
 case atStart=>exact ⟨0,Nat.zero_le _,rfl,rfl⟩
 case round=>
  obtain ⟨k,hk,rfl,rfl⟩:=hrel
  by_cases hlt:k < l.length
  ·obtain ⟨b,off,rfl,hb,hc⟩:=hA k hlt
   have hv0:=hf k hlt
   have hv1:=(hi k hlt).2
   have hR:=DF 137 2147483629 s (l.take k) (by omega) s0 (by omega)
   have hst:=Hf 137 2147483629 s l k hlt
   have HS:=hid hst
   clear hst hA hf hi
   generalize l.getD k 0 = v at hc hv0 hv1 HS
   generalize roll 137 2147483629 s (l.take k) = R at hR HS
   obtain ⟨hR0,hR1⟩:=hR
   go_wp2
   go_round
   case rel=>exact ⟨k + 1,by omega,by go_num,by rw [HS.out]⟩
   case measure=>simp [intOf];omega
  ·have hk':k = l.length:=by omega
   clear hA hf hi
   have HR:roll 137 2147483629 s (l.take k) = roll 137 2147483629 s l:=by rw [hk',IH]
   rw [HR];clear HR
   go_wp2
   go_ret
   exact ⟨rfl,rfl⟩
theorem Oi (key:Int) (A:Option Addr) (l:List Int) (cap B:Nat) (w:World) (hn:l.length <= maxLen) (hA:Ints w U B A l) (hi:I64s l):
    Calls prog 212 #[O U key,ψ A l.length cap] w fun e w'=>e = τ (O U (Df key l)) /\ w = w':=by
 by_cases hk:1 <= key /\ key <= 1000000
 ·obtain ⟨k0,k1⟩:=hk
  by_cases hf:Fine l
  ·rw [Hh k0 k1 hf]
   have X:=DF 131 2147483647 (7 + key) l (by omega) (by omega) (by omega)
   have Y:=DF 137 2147483629 (11 + 2 * key) l (by omega) (by omega) (by omega)
   have C1:=hid (fun w h=>Rm (7 + key) A l cap B w hn h hf hi (by omega) (by omega))
   have C2:=hid (fun w h=>Rq (11 + 2 * key) A l cap B w hn h hf hi (by omega) (by omega))
   have C0:=hid (Li A l cap B w hn hA hf)
   have HA:=hid hA
   clear hA hf hi hn
   generalize roll 131 2147483647 (7 + key) l = x at X C1
   generalize roll 137 2147483629 (11 + 2 * key) l = y at Y C2
   obtain ⟨x0,x1⟩:=X
   obtain ⟨y0,y1⟩:=Y
   go_enter func212,ntmps212
   go_wp2_with fail
   refine (Jm _ _ k0 k1).mono ?_;rintro e w' ⟨rfl,rfl⟩
   go_wp2_with fail
   refine C0.out.mono ?_;rintro e w' ⟨rfl,rfl⟩
   go_wp2_with fail
   refine (C1.out _ HA.out).mono ?_;rintro e w' ⟨rfl,rfl⟩
   go_wp2_with fail
   refine (C2.out _ HA.out).mono ?_;rintro e w' ⟨rfl,rfl⟩
   go_wp2
   go_ret
   exact ⟨rfl,rfl⟩
  ·rw [Jl hf]
   have hf':=Oe hf
   have C0:=hid (Kh A l cap B w hn hA hf')
   clear hA hf hi hn hf'
   go_enter func212,ntmps212
   go_wp2_with fail
   refine (Jm _ _ k0 k1).mono ?_;rintro e w' ⟨rfl,rfl⟩
   go_wp2_with fail
   refine C0.out.mono ?_;rintro e w' ⟨rfl,rfl⟩
   go_wp2
   go_ret
   exact ⟨rfl,rfl⟩
 ·have hk':key < 1 \/ 1000000 < key:=by omega
  rw [JD hk']
  clear hA hi hn hk
  go_enter func212,ntmps212
  go_wp2_with fail
  refine (OE _ _ hk').mono ?_;rintro e w' ⟨rfl,rfl⟩
  go_wp2
  go_ret
  exact ⟨rfl,rfl⟩
theorem EB (s:Int) (w:World) (h0:1 <= s) (h1:s <= 1000000):
    Calls prog 145 #[O U s] w fun e w'=>e = τ (φ true) /\ w = w':=by
 go_enter func145,ntmps145
 go_wp2_with (go_at_call 82;refine (Bm _ _ _ _ h0 h1).mono ?_;rintro e w' ⟨rfl,rfl⟩)
 go_ret
 exact ⟨rfl,rfl⟩
theorem GJ (s:Int) (w:World) (h:s < 1 \/ 1000000 < s):
    Calls prog 145 #[O U s] w fun e w'=>e = τ (φ false) /\ w = w':=by
 go_enter func145,ntmps145
 go_wp2_with (go_at_call 82;refine (DD _ _ _ _ h).mono ?_;rintro e w' ⟨rfl,rfl⟩)
 go_ret
 exact ⟨rfl,rfl⟩
theorem Nl (key:Int) (A:Option Addr) (l:List Int) (cap B:Nat) (w:World) (hn:l.length <= maxLen) (hA:Ints w U B A l) (hi:I64s l) (hf:Fine l) (k0:1 <= key) (k1:key <= 1000000):
    Calls prog 216 #[O U key,ψ A l.length cap] w fun e w'=>e = τ (O U (Df key l)) /\ w = w':=by
 unfold maxLen at hn
 rw [Hh k0 k1 hf]
 have FX:=DF 131 2147483647 (7 + key) l (by omega) (by omega) (by omega)
 have FY:=DF 137 2147483629 (11 + 2 * key) l (by omega) (by omega) (by omega)
 generalize hx:roll 131 2147483647 (7 + key) l = x at FX
 generalize hy:roll 137 2147483629 (11 + 2 * key) l = y at FY
 have HX:=hid hx
 have HY:=hid hy
 clear hx hy
 obtain ⟨fx0,fx1⟩:=FX
 obtain ⟨fy0,fy1⟩:=FY
 go_enter func216,ntmps216
 go_wp2_with (go_at_call 145;refine (EB _ _ k0 k1).mono ?_;rintro e w' ⟨rfl,rfl⟩)
 go_loop [5,6,7] (fun x y i=>∃ k:Nat,k <= l.length /\ i = O U k /\ x = O U (roll 131 2147483647 (7 + key) (l.take k)) /\ y = O U (roll 137 2147483629 (11 + 2 * key) (l.take k))) (fun _ _ i=>l.length - (intOf i).toNat)
 case atStart=>exact ⟨0,Nat.zero_le _,rfl,rfl,rfl⟩
 case round=>
  obtain ⟨k,hk,rfl,rfl,rfl⟩:=hrel
  have X:=DF 131 2147483647 (7 + key) (l.take k) (by omega) (by omega) (by omega)
  have Y:=DF 137 2147483629 (11 + 2 * key) (l.take k) (by omega) (by omega) (by omega)
  by_cases hlt:k < l.length
  ·obtain ⟨b,off,rfl,hb,hc⟩:=hA k hlt
   have hv0:=hf k hlt
   have hv1:=(hi k hlt).2
   have HS:=hid (Hf 131 2147483647 (7 + key) l k hlt)
   have HT:=hid (Hf 137 2147483629 (11 + 2 * key) l k hlt)
   clear hA hf hi
   generalize l.getD k 0 = v at hc hv0 hv1 HS HT
   generalize roll 131 2147483647 (7 + key) (l.take k) = x at X HS
   generalize roll 137 2147483629 (11 + 2 * key) (l.take k) = y at Y HT
   obtain ⟨x0,x1⟩:=X
   obtain ⟨y0,y1⟩:=Y
   go_wp2
   go_round
   case rel=>exact ⟨k + 1,by omega,by go_num,by rw [HS.out];go_num,by rw [HT.out];go_num⟩
   case measure=>simp [intOf];omega
  ·have hk':k = l.length:=by omega
   clear hA hf hi
   have HR:roll 131 2147483647 (7 + key) (l.take k) = x:=by rw [hk',IH];exact HX.out
   have HQ:roll 137 2147483629 (11 + 2 * key) (l.take k) = y:=by rw [hk',IH];exact HY.out
   rw [HR,HQ]
   clear HR HQ X Y
   go_wp2
   go_ret
   exact ⟨rfl,rfl⟩
theorem Oj (key:Int) (A:Option Addr) (l:List Int) (cap B:Nat) (w:World) (hn:l.length <= maxLen) (hA:Ints w U B A l) (hf:∃ i,i < l.length /\ l.getD i 0 < 0) (k0:1 <= key) (k1:key <= 1000000):
    Calls prog 216 #[O U key,ψ A l.length cap] w fun e w'=>e = τ (O U (-1)) /\ w = w':=by
 unfold maxLen at hn
 obtain ⟨j,hj,hjv⟩:=hf
 go_enter func216,ntmps216
 go_wp2_with (go_at_call 145;refine (EB _ _ k0 k1).mono ?_;rintro e w' ⟨rfl,rfl⟩)
 go_loop [5,6,7] (fun x y i=>∃ k:Nat,k <= j /\ i = O U k /\ (∃ X,x = O U X) /\ (∃ Y,y = O U Y)) (fun _ _ i=>l.length - (intOf i).toNat)
 case atStart=>exact ⟨0,Nat.zero_le _,rfl,⟨_,rfl⟩,⟨_,rfl⟩⟩
 case round=>
  obtain ⟨k,hk,rfl,⟨X,rfl⟩,⟨Y,rfl⟩⟩:=hrel
  have hlt:k < l.length:=by omega
  obtain ⟨b,off,rfl,hb,hc⟩:=hA k hlt
  clear hA
  by_cases hkj:k = j
  ·subst hkj
   generalize l.getD k 0 = v at hc hjv
   go_wp2
   go_ret
   exact ⟨rfl,rfl⟩
  ·have hkj':k < j:=by omega
   clear hkj hjv
   generalize l.getD k 0 = v at hc
   by_cases hv:v < 0
   ·go_wp2
    go_ret
    exact ⟨rfl,rfl⟩
   ·go_wp2
    go_round
    case rel=>exact ⟨k + 1,by omega,by go_num,⟨_,rfl⟩,⟨_,rfl⟩⟩
    case measure=>simp [intOf];omega
theorem FZ (key:Int) (A:Option Addr) (l:List Int) (cap B:Nat) (w:World) (hn:l.length <= maxLen) (hA:Ints w U B A l) (hi:I64s l):
    Calls prog 216 #[O U key,ψ A l.length cap] w fun e w'=>e = τ (O U (Df key l)) /\ w = w':=by
 by_cases hk:1 <= key /\ key <= 1000000
 ·obtain ⟨k0,k1⟩:=hk
  by_cases hf:Fine l
  ·exact Nl key A l cap B w hn hA hi hf k0 k1
  ·rw [Jl hf]
   exact Oj key A l cap B w hn hA (Oe hf) k0 k1
 ·have hk':key < 1 \/ 1000000 < key:=by omega
  rw [JD hk']
  clear hA hi hn hk
  go_enter func216,ntmps216
  go_wp2_with (go_at_call 145;refine (GJ _ _ hk').mono ?_;rintro e w' ⟨rfl,rfl⟩)
  go_ret
  exact ⟨rfl,rfl⟩
def I64 (x:Int):Prop:=-9223372036854775808 <= x /\ x <= 9223372036854775807
noncomputable def Dr (key at_ time:Int):Int:=if Df key [1,at_,time] < 0 then -1 else Df key [1,at_,time] % 10007
def BP (v:Int):Prop:=0 <= v /\ v <= 10006
theorem KW {x y z:Int} (a:I64 x) (b:I64 y) (c:I64 z):I64s [x,y,z]:=I64s.cons a.1 a.2 (I64s.cons b.1 b.2 (I64s.cons c.1 c.2 I64s.nil))
theorem Og (key:Int) (l:List Int):-1 <= Df key l /\ Df key l <= 4611686018427387903:=by
 by_cases hk:1 <= key /\ key <= 1000000
 ·by_cases hf:Fine l
  ·rw [Hh hk.1 hk.2 hf]
   have X:=DF 131 2147483647 (7 + key) l (by omega) (by omega) (by omega)
   have Y:=DF 137 2147483629 (11 + 2 * key) l (by omega) (by omega) (by omega)
   omega
  ·rw [Jl hf];omega
 ·rw [JD (by omega)];omega
theorem MJ {key:Int} {l:List Int} (h0:1 <= key) (h1:key <= 1000000) (hf:Fine l):0 <= Df key l:=by
 rw [Hh h0 h1 hf]
 have X:=DF 131 2147483647 (7 + key) l (by omega) (by omega) (by omega)
 have Y:=DF 137 2147483629 (11 + 2 * key) l (by omega) (by omega) (by omega)
 omega
theorem JW (key at_ time:Int):-1 <= Dr key at_ time /\ Dr key at_ time <= 10006:=by
 unfold Dr
 split <;> omega
theorem Pz {x y z:Int} (hx:0 <= x) (hy:0 <= y) (hz:0 <= z):Fine [x,y,z]:=by
 intro i hi
 match i,hi with
 | 0,_=>exact hx
 | 1,_=>exact hy
 | 2,_=>exact hz
theorem Ix {key at_ time:Int} (h0:1 <= key) (h1:key <= 1000000) (ha:0 <= at_) (ht:0 <= time):0 <= Dr key at_ time:=by
 have:=MJ h0 h1 (Pz (x:=1) (by omega) ha ht)
 unfold Dr
 rw [if_neg (by omega)];omega
theorem Or (s:Int) (w:World) (h:BP s):
    Calls prog 53 #[O U s] w fun e w'=>e = τ (φ true) /\ w = w':=by
 obtain ⟨h0,h1⟩:=h
 have h2:s < 10007:=by omega
 go_enter func53,ntmps53
 go_wp2
 go_ret
 exact ⟨rfl,rfl⟩
theorem PE (s:Int) (w:World) (h:¬ BP s):
    Calls prog 53 #[O U s] w fun e w'=>e = τ (φ false) /\ w = w':=by
 unfold BP at h
 by_cases h0:0 <= s
 ·have h2:¬ s < 10007:=by omega
  clear h
  go_enter func53,ntmps53
  go_wp2
  go_ret
  exact ⟨rfl,rfl⟩
 ·clear h
  go_enter func53,ntmps53
  go_wp2
  go_ret
  exact ⟨rfl,rfl⟩
theorem DI (s:Int) (w:World) (h:BP s):
    Calls prog 127 #[O U s] w fun e w'=>e = τ (φ true) /\ w = w':=by
 obtain ⟨h0,h1⟩:=h
 go_enter func127,ntmps127
 go_wp2_with (go_at_call 82;refine (Bm _ _ _ _ h0 h1).mono ?_;rintro e w' ⟨rfl,rfl⟩)
 go_ret
 exact ⟨rfl,rfl⟩
theorem ER (s:Int) (w:World) (h:¬ BP s):
    Calls prog 127 #[O U s] w fun e w'=>e = τ (φ false) /\ w = w':=by
 unfold BP at h
 have h':s < 0 \/ 10006 < s:=by omega
 clear h
 go_enter func127,ntmps127
 go_wp2_with (go_at_call 82;refine (DD _ _ _ _ h').mono ?_;rintro e w' ⟨rfl,rfl⟩)
 go_ret
 exact ⟨rfl,rfl⟩
theorem LR (key x y z:Int) (g:Nat) (w:World) (hg:w.1.size = g) (a:I64 x) (b:I64 y) (c:I64 z):
    Calls prog 216 #[O U key,ψ (some ⟨g,0,none⟩) 3 3] (w.alloc (.cells #[O U x,O U y,O U z] 2)) fun e w'=>e = τ (O U (Df key [x,y,z])) /\ w.alloc (.cells #[O U x,O U y,O U z] 2) = w':=by
 subst hg
 exact FZ key (some ⟨w.1.size,0,none⟩) [x,y,z] 3 (w.1.size + 1) _ (by simp [maxLen]) (Aa.reads [x,y,z] (Aa.new w 2 _)) (KW a b c)
theorem Sd:I64 1:=⟨by omega,by omega⟩
theorem Ge (key at_ time:Int) (w:World) (ha:I64 at_) (ht:I64 time):
    Calls prog 242 #[O U key,O U at_,O U time] w fun e w'=>e = τ (O U (Dr key at_ time)) /\ Below w.1.size w w':=by
 have C:=hid (fun g w hg=>LR key 1 at_ time g w hg Sd ha ht)
 have M:=Og key [1,at_,time]
 unfold Dr
 clear ha ht
 generalize Df key [1,at_,time] = m at C M
 obtain ⟨m0,m1⟩:=M
 by_cases hm:m < 0
 ·rw [if_pos hm]
  go_enter func242,ntmps242
  go_wp2_with fail
  refine (C.out _ _ ?_).mono ?_;(first | rfl | simp);rintro e w7 ⟨rfl,h7⟩
  subst h7
  go_wp2_with fail
  go_ret
  exact ⟨rfl,(Below.refl _ _).alloc (lr _) _⟩
 ·rw [if_neg hm]
  go_enter func242,ntmps242
  go_wp2_with fail
  refine (C.out _ _ ?_).mono ?_;(first | rfl | simp);rintro e w7 ⟨rfl,h7⟩
  subst h7
  go_wp2_with fail
  go_ret
  exact ⟨rfl,(Below.refl _ _).alloc (lr _) _⟩

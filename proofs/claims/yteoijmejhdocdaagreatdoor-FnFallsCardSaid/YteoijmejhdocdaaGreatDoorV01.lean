import Derived.WalkKit
import Derived.ProofKit
import Derived.Below
import Derived.IntWalk
import Derived.Deep.Draws
import Derived.Laws.Rows
import Derived.Lib.Hide
import Derived.Deep.QuietTactic
import Derived.BigQuiet
namespace Go.Proofs.YteoijmejhdocdaaGreatDoor.Mx
open Go.RowKit
set_option linter.unusedVariables false
open Value renaming int → O, slice → ψ, bool → φ, agg → σ
open IntKind renaming i64 → U
open Ending renaming returned → τ
theorem nq {a b:Nat} (h:Nat.beq a b = false):¬ a = b:=Nat.ne_of_beq_eq_false h
theorem lr (n:Nat):n <= n:=Nat.le_refl n
set_option maxRecDepth 20000
set_option maxHeartbeats 64000000
abbrev zT:Array Value:=#[O U 0,O U 0,O U 0,O U 0,O U 0,O U 0,O U 0,φ false]
abbrev zC:Array Value:=#[O U 0,O U 0]
abbrev zP:Array Value:=#[O U 0,ψ none 0 0]
abbrev zV:Array Value:=#[O U 0,ψ none 0 0,ψ none 0 0,ψ none 0 0,ψ none 0 0,O U 0]
abbrev tA (a b c d e f g:Int) (h:Bool):Array Value:=#[O U a,O U b,O U c,O U d,O U e,O U f,O U g,φ h]
abbrev cA (a b:Int):Array Value:=#[O U a,O U b]
abbrev pA (k:Int) (A:Option Addr) (n c:Nat):Array Value:=#[O U k,ψ A n c]
def Ints (w:World) (k:IntKind) (B:Nat) (A:Option Addr) (l:List Int):Prop:=
 ∀ i,i < l.length -> ∃ b off,A = some ⟨b,off,none⟩ /\ b < B /\ w.cell? ⟨b,off + i,none⟩ = some (O k (l.getD i 0))
theorem Ints.below {w w':World} {k:IntKind} {B B':Nat} {A:Option Addr} {l:List Int} (h:Ints w k B A l) (hb:Below B' w w') (hB:B <= B'):Ints w' k B A l:=by
 intro i hi
 obtain ⟨b,off,rfl,hlt,hc⟩:=h i hi
 exact ⟨b,off,rfl,hlt,(hb.cell (p:=⟨b,off + i,none⟩) (Nat.lt_of_lt_of_le hlt hB)).trans hc⟩
theorem Ints.more {w:World} {k:IntKind} {B B':Nat} {A:Option Addr} {l:List Int} (h:Ints w k B A l) (hB:B <= B'):Ints w k B' A l:=by
 intro i hi
 obtain ⟨b,off,rfl,hlt,hc⟩:=h i hi
 exact ⟨b,off,rfl,by omega,hc⟩
theorem Ints.nil {w:World} {k:IntKind} {B:Nat} {A:Option Addr}:Ints w k B A []:=by
 intro i hi;simp at hi
def Fine (l:List Int):Prop:=∀ i,i < l.length -> 0 <= l.getD i 0
def I64s (l:List Int):Prop:=∀ i,i < l.length -> -9223372036854775808 <= l.getD i 0 /\ l.getD i 0 <= 9223372036854775807
def roll (f m s:Int) (l:List Int):Int:=l.foldl (fun s n=>(s * f + n % m + 1) % m) s
theorem Hf (f m s:Int) (l:List Int) (k:Nat) (h:k < l.length):roll f m s (l.take (k + 1)) = (roll f m s (l.take k) * f + l.getD k 0 % m + 1) % m:=by
 unfold roll
 rw [List.take_succ_eq_append_getElem h,List.foldl_append]
 simp [List.getD_eq_getElem?_getD,h]
theorem DF (f m s:Int) (l:List Int) (hm:0 < m) (h0:0 <= s) (h1:s < m):0 <= roll f m s l /\ roll f m s l < m:=by
 unfold roll
 induction l generalizing s with
 | nil=>exact ⟨h0,h1⟩
 | cons a l ih=>exact ih _ (Int.emod_nonneg _ (by omega)) (Int.emod_lt_of_pos _ hm)
theorem IH (f m s:Int) (l:List Int):roll f m s (l.take l.length) = roll f m s l:=by rw [List.take_length]
open Classical in
noncomputable def Df (key:Int) (l:List Int):Int:=
 if (1 <= key /\ key <= 1000000) /\ Fine l then roll 131 2147483647 (7 + key) l * 2147483648 + roll 137 2147483629 (11 + 2 * key) l else -1
theorem Hh {key:Int} {l:List Int} (h0:1 <= key) (h1:key <= 1000000) (hf:Fine l):Df key l = roll 131 2147483647 (7 + key) l * 2147483648 + roll 137 2147483629 (11 + 2 * key) l:=by
 unfold Df;rw [if_pos ⟨⟨h0,h1⟩,hf⟩]
theorem JD {key:Int} {l:List Int} (h:key < 1 \/ 1000000 < key):Df key l = -1:=by
 unfold Df;rw [if_neg (by omega)]
theorem Jl {key:Int} {l:List Int} (h:¬ Fine l):Df key l = -1:=by
 unfold Df;rw [if_neg (fun h'=>h h'.2)]
theorem Oe {l:List Int} (h:¬ Fine l):∃ i,i < l.length /\ l.getD i 0 < 0:=by
 refine Classical.byContradiction fun hn=>h fun i hi=>?_
 refine Classical.byContradiction fun hc=>hn ⟨i,hi,by omega⟩
theorem KN (x:Int) (m:Nat) (hm:m < 4294967296):0 <= bits .and U x m /\ bits .and U x m <= m:=by
 have hle:(BitVec.ofInt 64 x &&& BitVec.ofInt 64 (m:Int)).toNat <= m:=by
  rw [BitVec.toNat_and]
  refine Nat.le_trans Nat.and_le_right ?_
  rw [BitVec.toNat_ofInt];omega
 have e:bits .and U x m = IntKind.wrap U ((BitVec.ofInt 64 x &&& BitVec.ofInt 64 (m:Int)).toNat:Int):=rfl
 rw [e]
 generalize (BitVec.ofInt 64 x &&& BitVec.ofInt 64 (m:Int)).toNat = t at hle
 rw [IntWalk.i64_in _ (by omega)]
 omega
theorem PL (x:Int) (m:Nat) (hm:m < 4294967296):0 <= bits .and .u64 x m /\ bits .and .u64 x m <= m:=by
 have hle:(BitVec.ofInt 64 x &&& BitVec.ofInt 64 (m:Int)).toNat <= m:=by
  rw [BitVec.toNat_and]
  refine Nat.le_trans Nat.and_le_right ?_
  rw [BitVec.toNat_ofInt];omega
 have e:bits .and .u64 x m = IntKind.wrap .u64 ((BitVec.ofInt 64 x &&& BitVec.ofInt 64 (m:Int)).toNat:Int):=rfl
 rw [e]
 generalize (BitVec.ofInt 64 x &&& BitVec.ofInt 64 (m:Int)).toNat = t at hle
 rw [IntWalk.u64_in _ (by omega)]
 omega
theorem Aj (w:World) (r:Option Nat):w.grownBy w r:=⟨rfl,rfl,rfl,lr _,fun _ _ _=>rfl⟩
theorem Ar {a b c:World} {r:Option Nat} (h:a.grownBy b r) (k:b.grownBy c r):a.grownBy c r:=
 ⟨k.os.trans h.os,k.tape.trans h.tape,k.output.trans h.output,Nat.le_trans h.size k.size,fun i hi hr=>(k.block i (Nat.lt_of_lt_of_le hi h.size) hr).trans (h.block i hi hr)⟩
theorem Ai {a b:World} {g:Nat} (h:a.grownBy b (some g)) (j:Nat) (u:Value):a.grownBy (b.setCell ⟨g,j,none⟩ u) (some g):=
 Ar h ⟨rfl,rfl,rfl,by simp [World.setCell],fun k _ hk=>Below.heap_setCell _ _ _ _ (fun e=>hk (by rw [e]))⟩
theorem EY {a b:World} {r:Option Nat} (h:a.grownBy b r) (n:Nat):a.grownBy (b.drewN n) r:=⟨h.os,h.tape,h.output,h.size,h.block⟩
theorem Fi {a b:World} {r:Option Nat} (h:a.grownBy b r):a.grownBy b.drew r:=⟨h.os,h.tape,h.output,h.size,h.block⟩
theorem AZ {a b:World} {r:Option Nat} (h:a.grownBy b r) (o:Obj):a.grownBy (b.alloc o) r:=
 Ar h ⟨rfl,rfl,rfl,by simp,fun k hk _=>Below.heap_alloc _ _ _ hk⟩
theorem BV {a b:World} (h:Below a.1.size a b) (r:Option Nat):a.grownBy b r:=⟨h.os,h.tape,h.output,h.size,fun k hk _=>h.block k hk⟩
theorem bgb {B:Nat} {a b c:World} {g:Nat} (h:Below B a b) (hg:b.grownBy c (some g)) (hB:B <= b.1.size) (hr:B <= g):Below B a c:=
 h.grown hg hB (fun k e=>by injection e with e;omega)
def Aa (w:World) (g:Nat) (t:TypeId) (cs:Array Value):Prop:=w.1[g]? = some (Obj.cells cs t (0,0))
namespace Aa
variable {w v:World} {g:Nat} {t:TypeId} {cs:Array Value}
theorem lt (h:Aa w g t cs):g < w.1.size:=(Array.getElem?_eq_some_iff.1 h).1
theorem cell (h:Aa w g t cs) (i:Nat):w.cell? ⟨g,i,none⟩ = cs[i]?:=by
 have e:w.1[g]? = some (Obj.cells cs t (0,0)):=h
 simp [World.cell?,e]
theorem frozen (h:Aa w g t cs) (i:Nat):w.frozen? ⟨g,i,none⟩ = false:=by
 have e:w.1[g]? = some (Obj.cells cs t (0,0)):=h
 simp [World.frozen?,e]
theorem new (w:World) (t:TypeId) (cs:Array Value):Aa (w.alloc (.cells cs t)) w.1.size t cs:=by
 show (w.heap.push _)[w.1.size]? = _
 simp
theorem drew (h:Aa w g t cs):Aa w.drew g t cs:=h
theorem set_ (h:Aa w g t cs) (i:Nat) (u:Value):Aa (w.setCell ⟨g,i,none⟩ u) g t (cs.setIfInBounds i u):=heap_setCell_same w g i cs t u h
theorem below {B:Nat} (h:Aa w g t cs) (hb:Below B w v) (hg:g < B):Aa v g t cs:=by
 show v.1[g]? = _
 rw [hb.block g hg];exact h
theorem grown {row:Option Nat} (h:Aa w g t cs) (hb:w.grownBy v row) (hg:some g ≠ row):Aa v g t cs:=by
 show v.1[g]? = _
 rw [hb.block g h.lt hg];exact h
end Aa
theorem c2 {w:World} {p:Nat} {t:TypeId} {a b:Value} (h:Aa w p t #[a,b]):w.cell? ⟨p,0,none⟩ = some a /\ w.cell? ⟨p,1,none⟩ = some b:=⟨h.cell 0,h.cell 1⟩
theorem c8 {w:World} {p:Nat} {t:TypeId} {a b c d e f g i:Value} (h:Aa w p t #[a,b,c,d,e,f,g,i]):w.cell? ⟨p,0,none⟩ = some a /\ w.cell? ⟨p,1,none⟩ = some b /\ w.cell? ⟨p,2,none⟩ = some c /\ w.cell? ⟨p,3,none⟩ = some d /\ w.cell? ⟨p,4,none⟩ = some e /\ w.cell? ⟨p,5,none⟩ = some f /\ w.cell? ⟨p,6,none⟩ = some g /\ w.cell? ⟨p,7,none⟩ = some i:=⟨h.cell 0,h.cell 1,h.cell 2,h.cell 3,h.cell 4,h.cell 5,h.cell 6,h.cell 7⟩
theorem Ints.gb {w w':World} {k:IntKind} {B g:Nat} {A:Option Addr} {l:List Int} (h:Ints w k B A l) (hb:w.grownBy w' (some g)) (hs:B <= w.1.size) (hg:B <= g):Ints w' k B A l:=by
 intro i hi
 obtain ⟨b,off,rfl,hlt,hc⟩:=h i hi
 exact ⟨b,off,rfl,hlt,hb.cell hc (by intro e;injection e with e;simp at e;omega)⟩
theorem I64s.nil:I64s []:=by intro i hi;simp at hi
theorem I64s.cons {a:Int} {l:List Int} (h0:-9223372036854775808 <= a) (h1:a <= 9223372036854775807) (h:I64s l):I64s (a :: l):=by
 intro i hi
 cases i with
 | zero=>exact ⟨h0,h1⟩
 | succ j=>exact h j (by simpa using hi)
theorem I64s.snoc {a:Int} {l:List Int} (h:I64s l) (h0:-9223372036854775808 <= a) (h1:a <= 9223372036854775807):I64s (l ++ [a]):=by
 intro i hi
 rw [List.getD_eq_getElem?_getD]
 rcases Nat.lt_or_ge i l.length with hlt | hge
 ·rw [List.getElem?_append_left hlt]
  have:=h i hlt
  rwa [List.getD_eq_getElem?_getD] at this
 ·have:i = l.length:=by simp at hi;omega
  subst this
  simp
  exact ⟨h0,h1⟩
theorem Aa.ints {w:World} {g:Nat} {t:TypeId} {zs:List Int} (h:Aa w g t ((zs.map (Value.int U)).toArray)) {k:Nat} (hk:k < zs.length):w.cell? ⟨g,k,none⟩ = some (O U (zs.getD k 0)):=by
 rw [h.cell]
 simp [List.getD_eq_getElem?_getD,hk]
theorem Aa.some64 {w:World} {g:Nat} {t:TypeId} (zs:List Int) (h:Aa w g t ((zs.map (Value.int U)).toArray)) (hz:I64s zs) (k:Nat) (hk:k < zs.length):
    ∃ v,(-9223372036854775808 <= v /\ v <= 9223372036854775807) /\ w.cell? ⟨g,k,none⟩ = some (O U v):=⟨_,hz k hk,h.ints hk⟩
theorem Aa.reads {w:World} {g:Nat} {t:TypeId} (zs:List Int) (h:Aa w g t ((zs.map (Value.int U)).toArray)):Ints w U (g + 1) (some ⟨g,0,none⟩) zs:=by
 intro i hi
 exact ⟨g,0,rfl,by omega,by rw [Nat.zero_add];exact h.ints hi⟩
def Row (w:World) (base t:Nat) (v:Value) (zs:List Int):Prop:=w.ownsRow base t 1 v zs.length (zs.map (Value.int U)) /\ I64s zs
theorem Row.grown {w w':World} {base t g:Nat} {v:Value} {zs:List Int} (h:Row w base t v zs) (hg:w.grownBy w' (some g)) (hb:g < base):Row w' base t v zs:=by
 refine ⟨h.1.kept hg ?_,h.2⟩
 cases e:v.ownBlock with
 | none=>exact .inl rfl
 | some k=>exact .inr (by intro e2;injection e2 with e2;have:=(h.1.lt k e).1;omega)
theorem Row.snoc {w':World} {base t:Nat} {v:Value} {zs:List Int} {x:Int} (h:I64s zs) (x0:-9223372036854775808 <= x) (x1:x <= 9223372036854775807)
    (hw:w'.ownsRow base t 1 v (zs.length + 1) (zs.map (Value.int U) ++ [Value.int U x])):Row w' base t v (zs ++ [x]):=by
 refine ⟨?_,h.snoc x0 x1⟩
 rw [List.length_append,List.map_append]
 exact hw
theorem Row.reads {w:World} {base t:Nat} {v:Value} {zs:List Int} (h:Row w base t v zs):∃ A c,v = ψ A zs.length c /\ Ints w U w.1.size A zs:=by
 rcases h.1.2 with ⟨rfl,hn⟩ | ⟨g,cap,cur,rfl,hb,hg,hnc,hcm,hcs,htake⟩
 ·have:zs = []:=List.length_eq_zero_iff.1 hn
  subst this
  exact ⟨none,0,rfl,Ints.nil⟩
 ·refine ⟨_,cap,rfl,fun i hi=>⟨g,0,rfl,(Array.getElem?_eq_some_iff.1 hg).1,?_⟩⟩
  rw [Nat.zero_add,h.1.cellAt i (by omega),List.getElem?_map,List.getElem?_eq_getElem hi,List.getD_eq_getElem?_getD,List.getElem?_eq_getElem hi]
  rfl
theorem EE {a b:World} {r:Option Nat} {B:Nat} (h:a.grownBy b r) (hB:B <= a.1.size) (hr:∀ k,r = some k -> B <= k):Below B a b:=
 ⟨h.os,h.tape,h.output,h.size,fun k hk=>h.block k (by omega) (by intro e;have:=hr k e.symm;omega)⟩
abbrev Box:=Nat × TypeId × Array Value
def Kept (b:World) (L:List Box) (w:World):Prop:=Below b.1.size b w /\ ∀ x ∈ L,b.1.size <= x.1 /\ Aa w x.1 x.2.1 x.2.2
namespace Kept
variable {b u w:World} {L:List Box} {g p:Nat} {t:TypeId} {cs:Array Value}
theorem refl (b:World):Kept b [] b:=⟨Below.refl _ _,fun x hx=>by cases hx⟩
theorem of_below (h:Below b.1.size b w):Kept b [] w:=⟨h,fun x hx=>by cases hx⟩
theorem below (h:Kept b L u) (hb:Below u.1.size u w):Kept b L w:=⟨h.1.trans (hb.mono h.1.size),fun x hx=>⟨(h.2 x hx).1,(h.2 x hx).2.below hb (h.2 x hx).2.lt⟩⟩
theorem grown (h:Kept b L u) (hb:u.grownBy w (some g)) (hg:b.1.size <= g) (hne:∀ x ∈ L,x.1 ≠ g):Kept b L w:=
 ⟨bgb h.1 hb h.1.size hg,fun x hx=>⟨(h.2 x hx).1,(h.2 x hx).2.grown hb (by intro e;injection e with e;exact hne x hx e)⟩⟩
theorem alloc (h:Kept b L w) (o:Obj):Kept b L (w.alloc o):=h.below ((Below.refl _ _).alloc (lr _) _)
theorem new (h:Kept b L w) (t:TypeId) (cs:Array Value):Kept b ((w.1.size,t,cs) :: L) (w.alloc (.cells cs t)):=by
 refine ⟨(h.alloc _).1,fun x hx=>?_⟩
 rcases List.mem_cons.1 hx with rfl | hx
 ·exact ⟨h.1.size,Aa.new w t cs⟩
 ·exact (h.alloc _).2 x hx
theorem drew (h:Kept b L w):Kept b L w.drew:=⟨h.1.drew,h.2⟩
theorem drewN (h:Kept b L w) (n:Nat):Kept b L (w.drewN n):=⟨⟨h.1.os,h.1.tape,h.1.output,h.1.size,h.1.block⟩,h.2⟩
theorem tail {x:Box} (h:Kept b (x :: L) w):Kept b L w:=⟨h.1,fun y hy=>h.2 y (List.mem_cons_of_mem _ hy)⟩
theorem sub {L':List Box} (h:Kept b L w) (hs:∀ x ∈ L',x ∈ L):Kept b L' w:=⟨h.1,fun y hy=>h.2 y (hs y hy)⟩
theorem set (h:Kept b ((p,t,cs) :: L) w) (hne:∀ x ∈ L,x.1 ≠ p) (i:Nat) (v:Value):Kept b ((p,t,cs.setIfInBounds i v) :: L) (w.setCell ⟨p,i,none⟩ v):=by
 have hp:=h.2 _ (List.mem_cons_self ..)
 refine ⟨h.1.setCell hp.1 _,fun x hx=>?_⟩
 rcases List.mem_cons.1 hx with rfl | hx
 ·exact ⟨hp.1,hp.2.set_ i v⟩
 ·exact ⟨(h.2 x (List.mem_cons_of_mem _ hx)).1,(h.2 x (List.mem_cons_of_mem _ hx)).2.grown (Ai (Aj w (some p)) i v) (by intro e;injection e with e;exact hne x hx e)⟩
theorem at_ (h:Kept b L w) (hm:(p,t,cs) ∈ L):Aa w p t cs:=(h.2 _ hm).2
theorem cell (h:Kept b L w) (hm:(p,t,cs) ∈ L) (i:Nat):w.cell? ⟨p,i,none⟩ = cs[i]?:=(h.2 _ hm).2.cell i
theorem frozen (h:Kept b L w) (hm:(p,t,cs) ∈ L) (i:Nat):w.frozen? ⟨p,i,none⟩ = false:=(h.2 _ hm).2.frozen i
theorem lt (h:Kept b L w) {x:Box} (hx:x ∈ L):x.1 < w.1.size:=(h.2 x hx).2.lt
theorem three {x y z:Value} (h:Kept b ((p,t,#[x,y,z]) :: L) w):w.cell? ⟨p,0,none⟩ = some x /\ w.cell? ⟨p,1,none⟩ = some y /\ w.cell? ⟨p,2,none⟩ = some z:=
 ⟨h.cell (List.mem_cons_self ..) 0,h.cell (List.mem_cons_self ..) 1,h.cell (List.mem_cons_self ..) 2⟩
end Kept
theorem Aw {P:Program} {C:World -> Prop} {id:Nat} {Q:Exit -> Act -> World -> Prop} {a:Act} {w:World} {l:List Oper} (hm:P.follows .mixedOrders = true) (hB:Region.lexB .any l.toArray = true) (hC:C w.drew)
    (h:wpQuiet P l.toArray C (fun a'=>∀ w',C w' -> Q .normal a' w') l a):(Code.region id l.toArray true).wp P Q a w:=
 wp_region_quiet (C:=C) hm hB hC (by simpa using h)
theorem BI {P:Program} {C:World -> Prop} {f:FuncId} {args:Array Value} {u:World} {v:Value} (hu:C u) (h:Calls P f args u fun e w'=>e = τ v /\ u = w'):Calls P f args u fun e w'=>e = τ v /\ C w':=
 h.mono fun e w' ⟨he,hw⟩=>⟨he,hw ▸ hu⟩
section
variable {P:Program} {C:(Nat -> Bool) -> World -> Prop} {l:List Oper} {A:Act}
theorem Cn {C':World -> Prop} {ops:Array Oper} {md:Region.Mode} (x:Operand) (fuel:Nat):∀ (up:Array Bool) (a:Act),
    (∀ j oj,ops[j]? = some oj -> up.getD j true = false -> ∀ d,oj.dst = some d -> x ≠ .tmp d) -> wpAnyQ P md ops C' (fun a'=>a' = A) fuel up a -> a.eval x = A.eval x:=by
 induction fuel with
 | zero=>intro up a _ h;rw [h.2]
 | succ f ih=>
   intro up a hx h
   by_cases h0:Region.ready md ops up = []
   ·rw [h.1 h0]
   ·obtain ⟨i,hi⟩:=List.exists_mem_of_ne_nil _ h0
    have hq:=h.2 i hi
    obtain ⟨hun,oi,hoi,_⟩:=mem_ready.1 hi
    have hx':∀ j oj,ops[j]? = some oj -> (up.setIfInBounds i true).getD j true = false -> ∀ d,oj.dst = some d -> x ≠ .tmp d:=by
     intro j oj hj hu
     refine hx j oj hj ?_
     by_cases hij:i = j
     ·subst hij;exact hun
     ·rwa [getD_set_ne true hij] at hu
    obtain ⟨v,_,hk⟩:=yieldsIn_of_qOp hoi hq
    rw [<- ih _ _ hx' hk]
    exact (Act.eval_put fun d hd=>hx i oi hoi hun d hd).symm
theorem Ea {up:Array Bool} {i:Nat} (h:i < up.size) (b c:Bool):up.getD i b = up.getD i c:=by simp [h]
theorem Ek (a:Act) (d:Nat) (u v:Value) (h:(a.put (some d) u).eval (.tmp d) = (a.put (some d) v).eval (.tmp d)):a.put (some d) u = a.put (some d) v:=by
 unfold Act.put Act.eval at *
 simp only [Array.getD_eq_getD_getElem?] at h
 by_cases hd:d < a.tmps.size
 ·simp [hd] at h;rw [h]
 ·simp only [Act.mk.injEq,and_true]
  rw [Array.setIfInBounds_eq_of_size_le (by omega),Array.setIfInBounds_eq_of_size_le (by omega)]
end
def AP (γ:Nat -> Value):Nat -> List Bool -> List Oper -> List Oper
 | _,[],l=>l
 | _,_ :: _,[]=>[]
 | k,b :: fl,o :: l=>(bif b then { o with op:=.assign (.const (γ k)) } else o) :: AP γ (k + 1) fl l
def EJ:Op -> Bool
 | .move _ | .assign _ | .pick _ _ _ | .build _ _ | .load _ _ | .binOp _ _ _ _ _ | .unOp _ _ _ | .convert _ _ _ | .makeInterface _ _ | .fieldAddr _ _ _ | .field _ _ _ | .indexAddr _ _ _ | .index _ _ _ | .extract _ _ | .makeFunc _ _ _ | .lookup _ _ _ _ | .slice _ _ _ _ _ | .store _ _ _=>true
 | _=>false
def AH (fl:List Bool) (i:Nat):Bool:=fl.getD i false
def NR (md:Region.Mode) (fl:List Bool) (l:List Oper):Bool:=
 (List.range l.length).all fun i=>match l[i]? with
  | none=>true
  | some o=>(match o.op with | .select _ _=>false | _=>true) && o.after.all (fun e=>!Region.binds md e || decide (e.on < i)) &&
    (List.range l.length).all (fun j=>j == i || match l[j]? with | some oj=>o.dst.isNone || o.dst != oj.dst | none=>true) &&
    (bif AH fl i then o.guard.isNone && o.op.operands.toList.all fun x=>match x with
     | .tmp t=>(List.range l.length).all fun j=>match l[j]? with | some oj=>oj.dst != some t || o.after.any (fun e=>Region.binds md e && e.on == j) | none=>true
     | _=>true
    else EJ o.op)
def Bt (P:Program) (r:Result Next) (K:Value -> World -> Prop):Prop:=
 match r with
 | .ok (.value u) w'=>K u w'
 | .ok .skip w'=>K undef w'
 | .ok (.enter f args) w'=>Calls P f args w' fun e w''=>∃ v,e = τ v /\ K v w''
 | _=>False
theorem Gj {P:Program} {r:Result Next} {K K':Value -> World -> Prop} (h:∀ v w,K v w -> K' v w) (hh:Bt P r K):Bt P r K':=by
 unfold Bt at *
 split
 ·exact h _ _ hh
 ·exact h _ _ hh
 ·exact Calls.mono hh fun e w' ⟨v,he,hk⟩=>⟨v,he,h _ _ hk⟩
 ·rename_i h1 h2 h3
  split at hh
  ·exact absurd rfl (h1 _ _)
  ·exact absurd rfl (h2 _)
  ·exact absurd rfl (h3 _ _ _)
  ·exact hh
def setD (D:Nat -> Bool) (i:Nat):Nat -> Bool:=fun k=>k == i || D k
def setG (γ:Nat -> Value) (i:Nat) (v:Value):Nat -> Value:=fun k=>if k = i then v else γ k
def MQ (md:Region.Mode) (fl:List Bool) (o:Oper) (D:Nat -> Bool):Prop:=∀ e ∈ o.after.toList,Region.binds md e = true -> AH fl e.on = true -> D e.on = true
def AY (P:Program) (C:(Nat -> Bool) -> (Nat -> Value) -> World -> Prop) (Sh:Nat -> Value -> Prop) (fl0:List Bool) (A:Act) (γ:Nat -> Value):Nat -> List Bool -> List Oper -> Prop
 | _,[],_=>True
 | _,_ :: _,[]=>True
 | k,false :: fl,_ :: l=>AY P C Sh fl0 A γ (k + 1) fl l
 | k,true :: fl,o :: l=>(∀ D w,D k = false -> MQ .any fl0 o D -> C D γ w -> Bt P ((execOp A.eval o).run P w) (fun v w'=>Sh k v /\ C (setD D k) (setG γ k v) w')) /\ AY P C Sh fl0 A γ (k + 1) fl l
section
variable {P:Program} {C:(Nat -> Bool) -> (Nat -> Value) -> World -> Prop} {Sh:Nat -> Value -> Prop} {fl fl0:List Bool} {l:List Oper} {γ:Nat -> Value} {A:Act}
def DE (b:Bool) (v:Value) (o:Oper):Oper:=bif b then { o with op:=.assign (.const v) } else o
theorem Ew (b:Bool) (v:Value) (o:Oper):(DE b v o).dst = o.dst:=by cases b <;> rfl
theorem NZ (b:Bool) (v:Value) (o:Oper):(DE b v o).after = o.after:=by cases b <;> rfl
theorem Mp (γ:Nat -> Value):∀ (k:Nat) (fl:List Bool) (l:List Oper) (i:Nat),(AP γ k fl l)[i]? = (l[i]?).map (DE (AH fl i) (γ (k + i)))
 | k,[],l,i=>by
   rw [show AP γ k [] l = l by cases l <;> rfl]
   have:AH [] i = false:=rfl
   rw [this]
   cases l[i]? <;> rfl
 | k,b :: fl,[],i=>by simp [AP]
 | k,b :: fl,o :: l,i=>by
   cases i with
   | zero=>simp [AP,AH,DE]
   | succ i=>
     rw [AP,List.getElem?_cons_succ,List.getElem?_cons_succ,Mp γ (k + 1) fl l i,show k + 1 + i = k + (i + 1) by omega]
     rfl
theorem Ee (γ:Nat -> Value):∀ (k:Nat) (fl:List Bool) (l:List Oper),(AP γ k fl l).length = l.length
 | k,[],l=>by rw [show AP γ k [] l = l by cases l <;> rfl]
 | k,b :: fl,[]=>rfl
 | k,b :: fl,o :: l=>by rw [AP,List.length_cons,List.length_cons,Ee γ (k + 1) fl l]
theorem DZ (γ:Nat -> Value) (fl:List Bool) (l:List Oper) (i:Nat):(AP γ 0 fl l).toArray[i]? = (l.toArray[i]?).map (DE (AH fl i) (γ i)):=by
 have:=Mp γ 0 fl l i
 rw [Nat.zero_add] at this
 simpa using this
theorem Ey (md:Region.Mode) (up:Array Bool):Region.ready md (AP γ 0 fl l).toArray up = Region.ready md l.toArray up:=by
 unfold Region.ready
 simp only [List.size_toArray,Ee]
 congr 1
 funext i
 rw [DZ]
 cases l.toArray[i]? with
 | none=>rfl
 | some o=>simp only [Option.map_some,Option.getD_some,NZ]
theorem Bu (ts:Array Value):yielded (AP γ 0 fl l).toArray ts = yielded l.toArray ts:=by
 funext j
 unfold yielded
 rw [DZ]
 cases l.toArray[j]? with
 | none=>rfl
 | some o=>simp only [Option.map_some,Option.bind_some,Ew]
theorem GQ {md:Region.Mode} (h:NR md fl l = true) {i:Nat} {o:Oper} (hi:l[i]? = some o):
    (∀ e ∈ o.after,Region.binds md e = true -> e.on < i) /\ (∀ j oj d,l[j]? = some oj -> j ≠ i -> o.dst = some d -> oj.dst ≠ some d) /\
    (AH fl i = false -> EJ o.op = true) /\
    (AH fl i = true -> o.guard = none /\ ∀ t,.tmp t ∈ o.op.operands.toList -> ∀ j oj,l[j]? = some oj -> oj.dst = some t -> ∃ e ∈ o.after,Region.binds md e = true /\ e.on = j) /\
    (∀ cs b,o.op ≠ .select cs b):=by
 unfold NR at h
 rw [List.all_eq_true] at h
 have hlt:i < l.length:=(List.getElem?_eq_some_iff.1 hi).1
 have h1:=h i (List.mem_range.2 hlt)
 simp only [hi,Bool.and_eq_true] at h1
 obtain ⟨⟨⟨hns,ha⟩,hd⟩,hs⟩:=h1
 refine ⟨fun e he hb=>?_,fun j oj d hj hne hod hoj=>?_,fun hf=>?_,fun hf=>?_,fun cs b he=>by rw [he] at hns;cases hns⟩
 ·have:=Array.all_eq_true_iff_forall_mem.1 ha e he
  simpa [hb] using this
 ·rw [List.all_eq_true] at hd
  have:=hd j (List.mem_range.2 (List.getElem?_eq_some_iff.1 hj).1)
  simp [hj,hne,hod,hoj] at this
 ·rw [hf] at hs;exact hs
 ·rw [hf] at hs
  simp only [cond_true,Bool.and_eq_true] at hs
  refine ⟨by simpa using hs.1,fun t ht j oj hj hd2=>?_⟩
  have h3:=List.all_eq_true.1 hs.2 _ ht
  simp only [List.all_eq_true] at h3
  have h4:=h3 j (List.mem_range.2 (List.getElem?_eq_some_iff.1 hj).1)
  simp only [hj,hd2,bne_self_eq_false,Bool.false_or] at h4
  obtain ⟨e,he,hb⟩:=Array.any_eq_true'.1 h4
  simp only [Bool.and_eq_true,beq_iff_eq] at hb
  exact ⟨e,he,hb.1,hb.2⟩
theorem RV {md:Region.Mode} (h:NR md fl l = true) {up:Array Bool} (hs:up.size = l.length) (h0:Region.ready md l.toArray up = []):∀ i,i < l.length -> up.getD i true = true:=by
 intro i
 induction i using Nat.strongRecOn with
 | _ i ih=>
   intro hi
   cases hu:up.getD i true with
   | true=>rfl
   | false=>
     exfalso
     obtain ⟨o,ho⟩:∃ o,l[i]? = some o:=⟨_,List.getElem?_eq_getElem hi⟩
     have:i ∈ Region.ready md l.toArray up:=by
      refine mem_ready.2 ⟨hu,o,by simpa using ho,fun e he hb=>?_⟩
      have hlt:=(GQ h ho).1 e he hb
      rw [Ea (by omega) false true]
      exact ih _ hlt (by omega)
     rw [h0] at this
     cases this
theorem Nf {s:Sem Value} {w w':World} {f:FuncId} {args:Array Value}:((do pure (Next.value (<- s))):Sem Next).run P w ≠ .ok (.enter f args) w':=by
 simp only [Sem.run_bind]
 cases s.run P w with
 | ok x w1=>simp [Result.andThen]
 | halt x w1=>simp [Result.andThen]
theorem Mb {s:Sem Unit} {w w':World} {f:FuncId} {args:Array Value}:((do s;pure Next.skip):Sem Next).run P w ≠ .ok (.enter f args) w':=by
 simp only [Sem.run_bind]
 cases s.run P w with
 | ok x w1=>simp [Result.andThen]
 | halt x w1=>simp [Result.andThen]
theorem KO {ρ:Operand -> Value} {o:Oper} {w w':World} {f:FuncId} {args:Array Value} (h:EJ o.op = true):(execOp ρ o).run P w ≠ .ok (.enter f args) w':=by
 unfold execOp
 generalize o.op = op at *
 cases op
 all_goals first
  | (exfalso;simp only [EJ] at h;cases h;done)
  | exact Nf
  | exact Mb
  | (simp;done)
  | (rename_i c x y;simp only [Sem.run_bind];cases (asBool (ρ c)).run P w <;> simp [Result.andThen])
theorem PH {C1 C2:World -> Prop} {o:Oper} {a:Act} {v1 v2:Value} {w:World} (h:EJ o.op = true) (h1:o.quietAt P a C1 w v1) (h2:o.quietAt P a C2 w v2):v1 = v2:=by
 unfold Oper.quietAt at h1 h2
 have hne:=fun w' f args=>KO (P:=P) (ρ:=a.eval) (o:=o) (w:=w) (w':=w') (f:=f) (args:=args) h
 generalize (execOp a.eval o).run P w = r at *
 cases r with
 | halt x w'=>simp only [Oper.quietUpon] at h1
 | ok n w'=>
   cases n <;> simp only [Oper.quietUpon] at h1 h2
   case value u=>exact h1.2.symm.trans h2.2
   case skip=>exact h1.2.trans h2.2.symm
   case enter f args=>exact absurd rfl (hne w' f args)
theorem YieldsIn.same {ops1 ops2:Array Oper} {C1 C2:World -> Prop} {o:Oper} {a:Act} {v1 v2:Value} {w:World} (hp:EJ o.op = true) (hy:yielded ops1 a.tmps = yielded ops2 a.tmps) (w1:C1 w) (w2:C2 w)
    (h1:YieldsIn P ops1 C1 o v1 a) (h2:YieldsIn P ops2 C2 o v2 a):v1 = v2:=by
 rcases h1 with ⟨g1,q1⟩ | ⟨g1,e1⟩ <;> rcases h2 with ⟨g2,q2⟩ | ⟨g2,e2⟩
 ·exact PH hp (q1 w w1) (q2 w w2)
 ·rw [hy,g2] at g1;cases g1
 ·rw [hy,g2] at g1;cases g1
 ·rw [e1,e2]
def OkG (Sh:Nat -> Value -> Prop) (fl:List Bool) (γ:Nat -> Value):Prop:=∀ i,AH fl i = true -> Sh i (γ i)
theorem MK (k:Nat):∀ (fl:List Bool) (l:List Oper),AY P C Sh fl0 A γ k fl l -> ∀ i o,l[i]? = some o -> AH fl i = true ->
    ∀ D w,D (k + i) = false -> MQ .any fl0 o D -> C D γ w -> Bt P ((execOp A.eval o).run P w) (fun v w'=>Sh (k + i) v /\ C (setD D (k + i)) (setG γ (k + i) v) w'):=by
 intro fl
 induction fl generalizing k with
 | nil=>intro l _ i o _ hf;cases hf
 | cons b fl ih=>
   intro l h i o hi hf
   cases l with
   | nil=>cases hi
   | cons o' l=>
     cases i with
     | zero=>
       have:b = true:=hf
       subst this
       simp only [List.getElem?_cons_zero,Option.some.injEq] at hi
       subst hi
       exact h.1
     | succ i=>
       have h':AY P C Sh fl0 A γ (k + 1) fl l:=by cases b;exact h;exact h.2
       rw [show k + (i + 1) = k + 1 + i by omega]
       exact ih (k + 1) l h' i o (by simpa using hi) hf
theorem Rk {Q:Exit -> Act -> World -> Prop} (AA:(Nat -> Value) -> Act) (hB:NR .any fl l = true)
    (hloc:∀ D γ γ' w,(∀ i,D i = true -> γ i = γ' i) -> C D γ w -> C D γ' w)
    (hst:∀ γ,OkG Sh fl γ -> AY P C Sh fl (AA γ) γ 0 fl l)
    (hQ:∀ γ,OkG Sh fl γ -> ∀ D w',(∀ i,i < l.length -> AH fl i = true -> D i = true) -> C D γ w' -> Q .normal (AA γ) w') (fuel:Nat):
    ∀ (up:Array Bool) (a:Act) (D:Nat -> Bool) (γ:Nat -> Value) (w:World),up.size = l.length -> OkG Sh fl γ ->
      (∀ γ',OkG Sh fl γ' -> (∀ i,D i = true -> γ i = γ' i) -> ∀ D',wpAnyQ P .any (AP γ' 0 fl l).toArray (C D' γ') (fun a'=>a' = AA γ') fuel up a) ->
      (∀ i,D i = (AH fl i && up.getD i false)) -> C D γ w -> wpAny P .any l.toArray Q fuel up a w:=by
 have fin:∀ (up:Array Bool) (D:Nat -> Bool) (γ:Nat -> Value) (w:World),up.size = l.length -> OkG Sh fl γ -> (∀ i,D i = (AH fl i && up.getD i false)) -> C D γ w ->
     Region.ready .any l.toArray up = [] -> Q .normal (AA γ) w:=by
  intro up D γ w hs hγ hD hC h0
  refine hQ γ hγ D w (fun i hi hf=>?_) hC
  rw [hD i,hf,Ea (by omega) false true,RV hB hs h0 i hi]
  rfl
 induction fuel with
 | zero=>
   intro up a D γ w hs hγ H hD hC
   have h:=H γ hγ (fun _ _=>rfl) D
   have hr:Region.ready .any l.toArray up = []:=by rw [<- Ey (γ:=γ) (fl:=fl)];exact h.1
   refine ⟨hr,?_⟩
   rw [h.2]
   exact fin up D γ w hs hγ hD hC hr
 | succ f ih=>
   intro up a D γ w hs hγ H hD hC
   refine ⟨fun h0=>?_,fun i hi=>?_⟩
   ·rw [(H γ hγ (fun _ _=>rfl) D).1 (by rw [Ey];exact h0)]
    exact fin up D γ w hs hγ hD hC h0
   ·obtain ⟨hun,o,ho,hwait⟩:=mem_ready.1 hi
    have hol:l[i]? = some o:=by simpa using ho
    have hil:i < l.length:=(List.getElem?_eq_some_iff.1 hol).1
    have hs':(up.setIfInBounds i true).size = l.length:=by simpa using hs
    have hDi:D i = false:=by
     rw [hD i,Ea (by omega) false true,hun];simp
    have hget:∀ γ':Nat -> Value,(AP γ' 0 fl l).toArray[i]? = some (DE (AH fl i) (γ' i) o):=fun γ'=>by rw [DZ,ho];rfl
    -- each takes the same step
    have hstep:∀ γ',OkG Sh fl γ' -> (∀ i,D i = true -> γ i = γ' i) -> ∀ D',∃ v,YieldsIn P (AP γ' 0 fl l).toArray (C D' γ') (DE (AH fl i) (γ' i) o) v a /\
        wpAnyQ P .any (AP γ' 0 fl l).toArray (C D' γ') (fun a'=>a' = AA γ') f (up.setIfInBounds i true) (a.put o.dst v):=by
     intro γ' h1 h2 D'
     obtain ⟨v,hy,hk⟩:=yieldsIn_of_qOp (hget γ') ((H γ' h1 h2 D').2 i (by rw [Ey];exact hi))
     rw [Ew] at hk
     exact ⟨v,hy,hk⟩
    have hendx:∀ γ' d,o.dst = some d -> ∀ j oj,(AP γ' 0 fl l).toArray[j]? = some oj -> (up.setIfInBounds i true).getD j true = false -> ∀ d',oj.dst = some d' -> Operand.tmp d ≠ .tmp d':=by
     intro γ' d hd j oj hj hu d' hd' he
     injection he with he
     subst he
     rw [DZ] at hj
     obtain ⟨oj',hj',rfl⟩:=Option.map_eq_some_iff.1 hj
     rw [Ew] at hd'
     have hji:j ≠ i:=by
      rintro rfl
      have:(up.setIfInBounds j true).getD j true = true:=by simp [show j < up.size by omega]
      rw [this] at hu;cases hu
     exact (GQ hB hol).2.1 j oj' d (by simpa using hj') hji hd hd'
    cases hf:AH fl i with
    | false=>
      have hp:EJ o.op = true:=(GQ hB hol).2.2.1 hf
      have hsame:∀ v,DE (AH fl i) v o = o:=fun v=>by rw [hf];rfl
      obtain ⟨v,hy,hk⟩:=hstep γ hγ (fun _ _=>rfl) D
      rw [hsame] at hy
      have hall:∀ γ',OkG Sh fl γ' -> (∀ i,D i = true -> γ i = γ' i) -> ∀ D',wpAnyQ P .any (AP γ' 0 fl l).toArray (C D' γ') (fun a'=>a' = AA γ') f (up.setIfInBounds i true) (a.put o.dst v):=by
       intro γ' h1 h2 D'
       obtain ⟨v1,hy1,hk1⟩:=hstep γ' h1 h2 D
       obtain ⟨v2,_,hk2⟩:=hstep γ' h1 h2 D'
       rw [hsame] at hy1
       have e1:v = v1:=YieldsIn.same hp ((Bu _).trans (Bu _).symm) hC (hloc D γ γ' w h2 hC) hy hy1
       subst e1
       suffices e:a.put o.dst v = a.put o.dst v2 by rw [e];exact hk2
       cases hd:o.dst with
       | none=>rfl
       | some d=>
         rw [hd] at hk1 hk2
         exact Ek a d v v2 ((Cn _ f _ _ (hendx γ' d hd) hk1).trans (Cn _ f _ _ (hendx γ' d hd) hk2).symm)
      have hq:qOp P l.toArray (C D γ) i (fun a'=>a' = a.put o.dst v) a:=by
       refine YieldsIn.qOp ho ?_ rfl
       rcases hy with ⟨hw,hv⟩ | ⟨hw,hv⟩
       ·left;rw [Bu] at hw;exact ⟨hw,hv⟩
       ·right;rw [Bu] at hw;exact ⟨hw,hv⟩
      refine wpOp_of_qOp hC (fun a' w' hw' ha'=>?_) hq
      subst ha'
      refine ih _ _ D γ w' hs' hγ hall (fun j=>?_) hw'
      rw [hD j]
      by_cases hij:i = j
      ·subst hij;rw [hf];simp
      ·rw [getD_set_ne false hij]
    | true=>
      obtain ⟨hg,hrd⟩:=(GQ hB hol).2.2.2.1 hf
      have hev:∀ z ∈ o.op.operands.toList,a.eval z = (AA γ).eval z:=by
       intro z hz
       refine Cn z (f + 1) up a (fun j oj hj hu d' hd' he=>?_) (H γ hγ (fun _ _=>rfl) D)
       subst he
       rw [DZ] at hj
       obtain ⟨oj',hj',rfl⟩:=Option.map_eq_some_iff.1 hj
       rw [Ew] at hd'
       obtain ⟨e,he,hb,hon⟩:=hrd d' hz j oj' (by simpa using hj') hd'
       have h3:=hwait e he hb
       rw [hon] at h3
       have hjlt:j < l.length:=by have:=(Array.getElem?_eq_some_iff.1 hj').1;simpa using this
       rw [Ea (by omega) false true,hu] at h3
       cases h3
      have hsel:∀ cs b,o.op ≠ .select cs b:=(GQ hB hol).2.2.2.2
      have hex:execOp a.eval o = execOp (AA γ).eval o:=execOp_congr o hsel (fun x hx=>hev x (by simpa using hx))
      have hstp:=MK 0 fl l (hst γ hγ) i o hol hf D w (by rw [Nat.zero_add];exact hDi) (fun e2 he2 hb2 hf2=>by
          rw [hD,hf2];exact hwait e2 (by simpa using he2) hb2) hC
      rw [Nat.zero_add,<- hex] at hstp
      have hwant:Region.wanted o (yielded l.toArray a.tmps) = true:=by unfold Region.wanted;rw [hg]
      unfold wpOp
      simp only [ho,hwant,if_true]
      left
      have hgo:∀ v w',Sh i v /\ C (setD D i) (setG γ i v) w' -> wpAny P .any l.toArray Q f (up.setIfInBounds i true) (a.put o.dst v) w':=by
       intro v w' ⟨hv,hC'⟩
       refine ih _ _ (setD D i) (setG γ i v) w' hs' (fun j hj=>?_) (fun γ' h1 h2 D'=>?_) (fun j=>?_) hC'
       ·unfold setG
        by_cases hji:j = i
        ·subst hji;rw [if_pos rfl];exact hv
        ·rw [if_neg hji];exact hγ j hj
       ·have h2':∀ j,D j = true -> γ j = γ' j:=by
          intro j hj
          have hji:j ≠ i:=by rintro rfl;rw [hDi] at hj;cases hj
          have:=h2 j (by unfold setD;rw [hj];simp)
          unfold setG at this
          rwa [if_neg hji] at this
        have hvi:v = γ' i:=by
         have:=h2 i (by simp [setD])
         unfold setG at this
         rwa [if_pos rfl] at this
        obtain ⟨u1,hy1,hk1⟩:=hstep γ' h1 h2' D
        obtain ⟨u2,_,hk2⟩:=hstep γ' h1 h2' D'
        rw [hf] at hy1
        have hu:γ' i = u1:=by
         rcases hy1 with ⟨_,q⟩ | ⟨g,_⟩
         ·have q':=q w (hloc D γ γ' w h2' hC)
          unfold Oper.quietAt at q'
          have hrun:(execOp a.eval (DE true (γ' i) o)).run P w = .ok (.value (γ' i)) w:=by unfold execOp DE;rfl
          rw [hrun] at q'
          exact q'.2
         ·exfalso
          have hgn:(DE true (γ' i) o).guard = none:=hg
          unfold Region.wanted at g;rw [hgn] at g;cases g
        rw [hvi,hu]
        suffices e:a.put o.dst u1 = a.put o.dst u2 by rw [e];exact hk2
        cases hd:o.dst with
        | none=>rfl
        | some d=>
          rw [hd] at hk1 hk2
          exact Ek a d u1 u2 ((Cn _ f _ _ (hendx γ' d hd) hk1).trans (Cn _ f _ _ (hendx γ' d hd) hk2).symm)
       ·unfold setD
        by_cases hij:i = j
        ·subst hij;simp [hf,show i < up.size by omega]
        ·rw [getD_set_ne false hij,hD j]
         simp [Ne.symm hij]
      have hfin:=Gj hgo hstp
      unfold Oper.wp
      generalize (execOp a.eval o).run P w = r at *
      cases r with
      | halt x w'=>simp only [Bt] at hfin
      | ok n w'=>
        cases n <;> simp only [Bt] at hfin
        case value u=>exact hfin
        case skip=>exact hfin
        case enter g args=>exact hfin.mono fun e w'' ⟨v,he,hk⟩=>by subst he;exact hk
theorem Ao {id:Nat} {Q:Exit -> Act -> World -> Prop} {a:Act} {w:World} {l:List Oper} (fl:List Bool) (Sh:Nat -> Value -> Prop) (C:(Nat -> Bool) -> (Nat -> Value) -> World -> Prop)
    (hm:P.follows .mixedOrders = true) (hS:NR .any fl l = true) (hB:∀ γ,Region.lexB .any (AP γ 0 fl l).toArray = true)
    (hloc:∀ D γ γ' w,(∀ i,D i = true -> γ i = γ' i) -> C D γ w -> C D γ' w) (hinh:∀ i,∃ v,Sh i v) (hC:∀ γ,C (fun _=>false) γ w.drew)
    (H:∀ γ,OkG Sh fl γ -> ∃ A:Act,(∀ D,wpQuiet P (AP γ 0 fl l).toArray (C D γ) (fun a'=>a' = A) (AP γ 0 fl l) a) /\ AY P C Sh fl A γ 0 fl l /\
     (∀ D w',(∀ i,i < l.length -> AH fl i = true -> D i = true) -> C D γ w' -> Q .normal A w')):(Code.region id l.toArray true).wp P Q a w:=by
 classical
 refine wp_region_any hm ?_
 obtain ⟨γ0,h0⟩:∃ γ0:Nat -> Value,OkG Sh fl γ0:=⟨fun i=>Classical.choose (hinh i),fun i _=>Classical.choose_spec (hinh i)⟩
 let AA:(Nat -> Value) -> Act:=fun γ=>if h:OkG Sh fl γ then Classical.choose (H γ h) else a
 have hAA:∀ γ (h:OkG Sh fl γ),AA γ = Classical.choose (H γ h):=fun γ h=>dif_pos h
 have hA:∀ γ (h:OkG Sh fl γ),(∀ D,wpQuiet P (AP γ 0 fl l).toArray (C D γ) (fun a'=>a' = AA γ) (AP γ 0 fl l) a) /\ AY P C Sh fl (AA γ) γ 0 fl l /\
     (∀ D w',(∀ i,i < l.length -> AH fl i = true -> D i = true) -> C D γ w' -> Q .normal (AA γ) w'):=fun γ h=>by rw [hAA γ h];exact Classical.choose_spec (H γ h)
 refine Rk AA hS hloc (fun γ h=>(hA γ h).2.1) (fun γ h=>(hA γ h).2.2) _ _ _ (fun _=>false) γ0 _ (by simp) h0 (fun γ' h1 _ D'=>?_) (fun i=>?_) (hC γ0)
 ·have hlex:=hB γ'
  simp only [Region.lexB,Bool.and_eq_true] at hlex
  have:=wpAnyQ_lex (C:=C D' γ') (md:=.any) hlex.1 (AP γ' 0 fl l) 0 (Array.replicate l.toArray.size false) a (by simp) (by simpa [Ee] using hlex.2) ((hA γ' h1).1 D')
  simpa [Ee] using this
 ·have:(Array.replicate l.toArray.size false).getD i false = false:=by
    rcases Nat.lt_or_ge i l.length with h' | h'
    ·simp [h']
    ·simp [h']
  rw [this];simp
end

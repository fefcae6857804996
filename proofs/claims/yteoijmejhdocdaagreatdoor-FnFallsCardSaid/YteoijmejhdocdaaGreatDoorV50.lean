import Derived.Test.YteoijmejhdocdaaGreatDoorV49
import Derived.ShutString
import Derived.ChangeOld
namespace Go.Proofs.YteoijmejhdocdaaGreatDoor.Mx
open Go.ChangeShapes Go.WideShapes Go.RowKit
set_option linter.unusedVariables false
open Go.Proofs.Tryz
set_option maxRecDepth 20000
set_option maxHeartbeats 64000000
open Value renaming int → O, slice → ψ, bool → φ, agg → σ
def Rx:List (String × DataW Unit):=[("loop.example/g00775/impl.errBad",Rows.laid_loop_example_g00775_impl_errBad)]
theorem Su {W:World} (h:laidMetH prog Rx W):∃ a0,Bad1 W a0:=by
 have h':laidMet prog [("loop.example/g00775/impl.errBad",Rows.laid_loop_example_g00775_impl_errBad)] W:=h
 obtain ⟨ps,hv,hnd,hrows⟩:=h'
 obtain ⟨a0,q0,n0,c0,-,-,-⟩:=Ng xG0 xT0 hv hrows
 exact ⟨a0,c0⟩
theorem Sb {H:Type} {enc:TypeId × Value -> H} {P:Program} {W:World} {sp:Nat -> Bool} {n0:String} {gs:List (DataW H)} {ps:List MemPlace} (h:DataW.TrodVars enc P W sp [n0] gs ps):∃ d0,gs = [d0]:=by
 match gs,h with
 | [],h=>exact h.elim
 | [a],_=>exact ⟨a,rfl⟩
 | _ :: _ :: _,h=>obtain ⟨_,_,_,_,_,_,_,_,_,_,h,_⟩:=h;exact h.elim
theorem SA (os:Os) (args:Array Value):laidMetH prog Rx ((World.doorLaid prog 400 os).forCall (fun _ _=>0) ⟨#[],args,[]⟩).memory:=
 show laidMet prog Rx _ from laidMet_of_run' 8 (by kernel_rfl) (by kernel_rfl)
open Go.ChangeShapes Go.WideShapes Go.ChangeAt Go.RowKit
def SM (k:IntKind) (w:World) (a:Option Addr) (len cap:Nat) (zs:List Int):Prop:=
 (a = none /\ len = 0 /\ cap = 0 /\ zs = []) \/
 ∃ x,a = some x /\ len <= cap /\ cap <= maxLen /\ zs.length = cap /\ (∀ i,i < zs.length -> w.cell? (x.add i) = some (.int k (zs.getD i 0))) /\ ∀ n ∈ zs,(Lit.int k n).wf = true
section
variable {H:Type} {enc:TypeId × Value -> H} {P:Program} {w:World} {base:Nat} {spare:Nat -> Bool} {held:Bool}
theorem Ss {t e:TypeId} {k:IntKind} {a:Option Addr} {len cap:Nat} {d:DataW H} {p:List MemPlace} (ht:P.underlying t = some (.slice e)) (he:P.underlying e = some (.int k)) (hc:P.cellsOf e = 1)
    (h:DataW.Trod enc P w base (fun _=>true) held t (ψ a len cap) d p):∃ zs,SM k w a len cap zs:=by
 obtain ⟨fuel,hf⟩:=h
 rcases open_ints ht he hc hf with ⟨hcs,_⟩ | ⟨x,l,c,zs,hcs,_,hl,hm,hz,_,hcell,hwz⟩
 ·simp [Value.cells] at hcs
  obtain ⟨rfl,rfl,rfl⟩:=hcs
  exact ⟨[],.inl ⟨rfl,rfl,rfl,rfl⟩⟩
 ·simp [Value.cells] at hcs
  obtain ⟨rfl,rfl,rfl⟩:=hcs
  exact ⟨zs,.inr ⟨_,rfl,hl,hm,by simpa using hz,hcell,hwz⟩⟩
end

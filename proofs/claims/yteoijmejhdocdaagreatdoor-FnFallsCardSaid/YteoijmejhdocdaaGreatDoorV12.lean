import Derived.Test.YteoijmejhdocdaaGreatDoorV11
namespace Go.Proofs.YteoijmejhdocdaaGreatDoor.Mx
open Go.ChangeShapes Go.WideShapes Go.ChangeAt Go.RowKit
set_option linter.unusedVariables false
open Go.Lib (hid)
open Go.Proofs.Tryz
set_option maxRecDepth 20000
set_option maxHeartbeats 64000000
open Value renaming int → O, slice → ψ, bool → φ, agg → σ
open IntKind renaming i64 → U
open Ending renaming returned → τ
def Qh (S:List SlN):Prop:=∀ i,i < S.length -> (S.getD i default).trusts.length <= 1048576 /\ (S.getD i default).cells.length <= 1048576
theorem Fw {P:Program} (w:World) (dT sT ty elem:TypeId) (d a:Option Addr) (dCap sCap s:Nat) (hu:P.underlying dT = some (.slice elem)) (hs:(P.info? elem).map (·.size) = some s):
    (Builtin.copy_ #[dT,sT] ty #[ψ d 0 dCap,ψ a 0 sCap]).run P w = .ok (goInt 0) w:=by
 cases hq:P.info? elem with
 | none=>simp [hq] at hs
 | some i=>
   have hl:∀ (x:Addr),(loadCells x 0).run P w = .ok #[] w:=fun x=>by simpa using run_loadCells_list (P:=P) w x [] (by simp)
   cases d <;> cases a <;> simp [Builtin.copy_,run_underlying hu,Builtin.lenOf,Builtin.firstCells,sizeOf,typeInfo,hq,storeCells,hl]
theorem PS {α:Type} (L:List α) (cs:List α) (h:L.length <= cs.length):(L.take 0 ++ cs ++ L.drop (0 + cs.length)) = cs:=by
 rw [List.drop_eq_nil_of_le (by omega)];simp
theorem Pj:(prog.info? 2).map (fun i=>(i.zero,i.size,i.bytes)) = some (some (O U 0),1,8):=by kernel_rfl
theorem MS:∃ i,prog.info? 2 = some i /\ i.zero = some (Value.int U 0) /\ i.size = 1 /\ i.bytes <= 64:=by
 obtain ⟨i,hi,hzz⟩:=Option.map_eq_some_iff.1 Pj
 simp only [Prod.mk.injEq] at hzz
 exact ⟨i,hi,hzz.1,hzz.2.1,by omega⟩
theorem Qa (n:Nat) (hn:n <= 1048576) (w:World):
    (Instr.makeSlice 24 (O U (n:Int)) (O U (n:Int))).run prog w = .ok (ψ (some ⟨w.1.size,0,none⟩) n n) (w.alloc (.cells (madeCells (Value.int U 0).cells (n * 1)) 2)):=by
 obtain ⟨i,hi,hz,hs,hb⟩:=MS
 have hr:=run_make (P:=prog) w 24 2 i _ underlying24 hi hz U U n n (by omega) (Int.le_refl _) (by have:=Nat.mul_le_mul hn hb;have e:=Nat.mul_comm n i.bytes;omega) (by omega)
 rw [hs] at hr
 simpa using hr
theorem Lc (A:Option Addr) (cap:Nat) (w:World):
    Calls prog 143 #[ψ A 0 cap] w fun e w'=>e = τ (ψ (some ⟨w.1.size,0,none⟩) 0 0) /\ Aa w' w.1.size 2 #[] /\ Below w.1.size w w' /\ w'.1.size = w.1.size + 1:=by
 have hmk:=fun u=>Qa 0 (by decide) u
 simp only [Nat.zero_mul,Int.ofNat_zero] at hmk
 have hz:madeCells (Value.int U 0).cells 0 = #[]:=by unfold madeCells;simp
 rw [hz] at hmk
 have hw0:=hid (Aa.new w 2 #[])
 have hb0:=hid (Ap w (.cells #[] 2))
 have HS2:=hid (show (w.alloc (.cells #[] 2)).1.size = w.1.size + 1 by simp)
 have hrun:=fun (d:Option Addr) (dc:Nat) (u:World)=>Fw (P:=prog) u 24 24 3 2 d A dc cap 1 underlying24 (by obtain ⟨i,hi,_,hs,_⟩:=MS;rw [hi];simp [hs])
 go_enter func143,ntmps143
 go_wp2_with fail
 go_ret
 exact ⟨rfl,hw0.out,hb0.out,HS2.out⟩
theorem MR:∃ i,prog.info? 94 = some i /\ i.zero = some (Value.agg #[O U 0,O U 0,O U 0,O U 0,O U 0,O U 0,O U 0,φ false]) /\ i.size = 8 /\ i.bytes <= 64:=by
 obtain ⟨i,hi,hzz⟩:=Option.map_eq_some_iff.1 IG
 simp only [Prod.mk.injEq] at hzz
 exact ⟨i,hi,hzz.1,hzz.2.1,by omega⟩
theorem Qc (n:Nat) (hn:n <= 1048576) (w:World):
    (Instr.makeSlice 27 (O U (n:Int)) (O U (n:Int))).run prog w = .ok (ψ (some ⟨w.1.size,0,none⟩) n n) (w.alloc (.cells (madeCells (Value.agg #[O U 0,O U 0,O U 0,O U 0,O U 0,O U 0,O U 0,φ false]).cells (n * 8)) 94)):=by
 obtain ⟨i,hi,hz,hs,hb⟩:=MR
 have hr:=run_make (P:=prog) w 27 94 i _ underlying27 hi hz U U n n (by omega) (Int.le_refl _) (by have:=Nat.mul_le_mul hn hb;have e:=Nat.mul_comm n i.bytes;omega) (by omega)
 rw [hs] at hr
 simpa using hr
theorem Kr (A:Option Addr) (cap:Nat) (w:World):
    Calls prog 141 #[ψ A 0 cap] w fun e w'=>e = τ (ψ (some ⟨w.1.size,0,none⟩) 0 0) /\ Aa w' w.1.size 94 #[] /\ Below w.1.size w w' /\ w'.1.size = w.1.size + 1:=by
 have hmk:=fun u=>Qc 0 (by decide) u
 simp only [Nat.zero_mul,Int.ofNat_zero] at hmk
 have hz:madeCells (Value.agg #[O U 0,O U 0,O U 0,O U 0,O U 0,O U 0,O U 0,φ false]).cells 0 = #[]:=by unfold madeCells;simp
 rw [hz] at hmk
 have hw0:=hid (Aa.new w 94 #[])
 have hb0:=hid (Ap w (.cells #[] 94))
 have HS2:=hid (show (w.alloc (.cells #[] 94)).1.size = w.1.size + 1 by simp)
 have hrun:=fun (d:Option Addr) (dc:Nat) (u:World)=>Fw (P:=prog) u 27 27 3 94 d A dc cap 8 underlying27 (by obtain ⟨i,hi,_,hs,_⟩:=MR;rw [hi];simp [hs])
 go_enter func141,ntmps141
 go_wp2_with fail
 go_ret
 exact ⟨rfl,hw0.out,hb0.out,HS2.out⟩
theorem Nt:∃ i,prog.info? 118 = some i /\ i.zero = some (Value.agg #[O U 0,O U 0]) /\ i.size = 2 /\ i.bytes <= 64:=by
 obtain ⟨i,hi,hzz⟩:=Option.map_eq_some_iff.1 Dp
 simp only [Prod.mk.injEq] at hzz
 exact ⟨i,hi,hzz.1,hzz.2.1,by omega⟩
theorem Qe (n:Nat) (hn:n <= 1048576) (w:World):
    (Instr.makeSlice 28 (O U (n:Int)) (O U (n:Int))).run prog w = .ok (ψ (some ⟨w.1.size,0,none⟩) n n) (w.alloc (.cells (madeCells (Value.agg #[O U 0,O U 0]).cells (n * 2)) 118)):=by
 obtain ⟨i,hi,hz,hs,hb⟩:=Nt
 have hr:=run_make (P:=prog) w 28 118 i _ underlying28 hi hz U U n n (by omega) (Int.le_refl _) (by have:=Nat.mul_le_mul hn hb;have e:=Nat.mul_comm n i.bytes;omega) (by omega)
 rw [hs] at hr
 simpa using hr
theorem Ll (A:Option Addr) (cap:Nat) (w:World):
    Calls prog 140 #[ψ A 0 cap] w fun e w'=>e = τ (ψ (some ⟨w.1.size,0,none⟩) 0 0) /\ Aa w' w.1.size 118 #[] /\ Below w.1.size w w' /\ w'.1.size = w.1.size + 1:=by
 have hmk:=fun u=>Qe 0 (by decide) u
 simp only [Nat.zero_mul,Int.ofNat_zero] at hmk
 have hz:madeCells (Value.agg #[O U 0,O U 0]).cells 0 = #[]:=by unfold madeCells;simp
 rw [hz] at hmk
 have hw0:=hid (Aa.new w 118 #[])
 have hb0:=hid (Ap w (.cells #[] 118))
 have HS2:=hid (show (w.alloc (.cells #[] 118)).1.size = w.1.size + 1 by simp)
 have hrun:=fun (d:Option Addr) (dc:Nat) (u:World)=>Fw (P:=prog) u 28 28 3 118 d A dc cap 2 underlying28 (by obtain ⟨i,hi,_,hs,_⟩:=Nt;rw [hi];simp [hs])
 go_enter func140,ntmps140
 go_wp2_with fail
 go_ret
 exact ⟨rfl,hw0.out,hb0.out,HS2.out⟩
theorem Qi:∃ i,prog.info? 91 = some i /\ i.zero = some (Value.agg #[O U 0,ψ none 0 0,O U 0,ψ none 0 0]) /\ i.size = 4 /\ i.bytes <= 64:=by
 obtain ⟨i,hi,hzz⟩:=Option.map_eq_some_iff.1 JA
 simp only [Prod.mk.injEq] at hzz
 exact ⟨i,hi,hzz.1,hzz.2.1,by omega⟩
theorem Sg (n:Nat) (hn:n <= 1048576) (w:World):
    (Instr.makeSlice 29 (O U (n:Int)) (O U (n:Int))).run prog w = .ok (ψ (some ⟨w.1.size,0,none⟩) n n) (w.alloc (.cells (madeCells (Value.agg #[O U 0,ψ none 0 0,O U 0,ψ none 0 0]).cells (n * 4)) 91)):=by
 obtain ⟨i,hi,hz,hs,hb⟩:=Qi
 have hr:=run_make (P:=prog) w 29 91 i _ underlying29 hi hz U U n n (by omega) (Int.le_refl _) (by have:=Nat.mul_le_mul hn hb;have e:=Nat.mul_comm n i.bytes;omega) (by omega)
 rw [hs] at hr
 simpa using hr
theorem DP:(∀ (q off n cap:Nat) (xs:List Value) (w:World) (h8:n <= 1048576) (hl:xs.length = n * 1) (h1:∀ v ∈ xs,v.oneCell' = true) (hq:q < w.1.size) (hsrc:∀ j v,xs[j]? = some v -> w.cell? (Addr.add ⟨q,off,none⟩ j) = some v),Calls prog 143 #[ψ (some ⟨q,off,none⟩) n cap] w fun e w'=>e = τ (ψ (some ⟨w.1.size,0,none⟩) n n) /\ Aa w' w.1.size 2 xs.toArray /\ Below w.1.size w w' /\ w'.1.size = w.1.size + 1) /\
 (∀ (q off n cap:Nat) (xs:List Value) (w:World) (h8:n <= 1048576) (hl:xs.length = n * 8) (h1:∀ v ∈ xs,v.oneCell' = true) (hq:q < w.1.size) (hsrc:∀ j v,xs[j]? = some v -> w.cell? (Addr.add ⟨q,off,none⟩ j) = some v),Calls prog 141 #[ψ (some ⟨q,off,none⟩) n cap] w fun e w'=>e = τ (ψ (some ⟨w.1.size,0,none⟩) n n) /\ Aa w' w.1.size 94 xs.toArray /\ Below w.1.size w w' /\ w'.1.size = w.1.size + 1) /\
 (∀ (q off n cap:Nat) (xs:List Value) (w:World) (h8:n <= 1048576) (hl:xs.length = n * 2) (h1:∀ v ∈ xs,v.oneCell' = true) (hq:q < w.1.size) (hsrc:∀ j v,xs[j]? = some v -> w.cell? (Addr.add ⟨q,off,none⟩ j) = some v),Calls prog 140 #[ψ (some ⟨q,off,none⟩) n cap] w fun e w'=>e = τ (ψ (some ⟨w.1.size,0,none⟩) n n) /\ Aa w' w.1.size 118 xs.toArray /\ Below w.1.size w w' /\ w'.1.size = w.1.size + 1) /\
 (∀ (q off n cap:Nat) (xs:List Value) (w:World) (h8:n <= 1048576) (hl:xs.length = n * 4) (h1:∀ v ∈ xs,v.oneCell' = true) (hq:q < w.1.size) (hsrc:∀ j v,xs[j]? = some v -> w.cell? (Addr.add ⟨q,off,none⟩ j) = some v),Calls prog 144 #[ψ (some ⟨q,off,none⟩) n cap] w fun e w'=>e = τ (ψ (some ⟨w.1.size,0,none⟩) n n) /\ Aa w' w.1.size 91 xs.toArray /\ Below w.1.size w w' /\ w'.1.size = w.1.size + 1):=by
 refine ⟨fun q off n cap xs w h8 hl h1 hq hsrc=>(fun (z_1:True)=>?_) trivial,fun q off n cap xs w h8 hl h1 hq hsrc=>(fun (z_2:True)=>?_) trivial,fun q off n cap xs w h8 hl h1 hq hsrc=>(fun (z_3:True)=>?_) trivial,fun q off n cap xs w h8 hl h1 hq hsrc=>(fun (z_4:True)=>?_) trivial⟩
 all_goals
  first
   | guard_hyp z_1
     have hmk:=fun u=>Qa n h8 u
     have hw0:Aa (w.alloc (.cells (madeCells (Value.int U 0).cells (n * 1)) 2)) w.1.size 2 (madeCells (Value.int U 0).cells (n * 1)):=Aa.new w _ _
     have hb0:=Ap w (.cells (madeCells (Value.int U 0).cells (n * 1)) 2)
     have hsz:(madeCells (Value.int U 0).cells (n * 1)).size = n * 1:=size_madeCells _ _
     have hnw:∀ j v,xs[j]? = some v -> (w.alloc (.cells (madeCells (Value.int U 0).cells (n * 1)) 2)).cell? (Addr.add ⟨q,off,none⟩ j) = some v:=fun j v hv=>by rw [Addr.add_mid];exact (hb0.cell (p:=⟨q,off + j,none⟩) hq).trans (by rw [<- Addr.add_mid];exact hsrc j v hv)
   | guard_hyp z_2
     have hmk:=fun u=>Qc n h8 u
     have hw0:Aa (w.alloc (.cells (madeCells (Value.agg #[O U 0,O U 0,O U 0,O U 0,O U 0,O U 0,O U 0,φ false]).cells (n * 8)) 94)) w.1.size 94 (madeCells (Value.agg #[O U 0,O U 0,O U 0,O U 0,O U 0,O U 0,O U 0,φ false]).cells (n * 8)):=Aa.new w _ _
     have hb0:=Ap w (.cells (madeCells (Value.agg #[O U 0,O U 0,O U 0,O U 0,O U 0,O U 0,O U 0,φ false]).cells (n * 8)) 94)
     have hsz:(madeCells (Value.agg #[O U 0,O U 0,O U 0,O U 0,O U 0,O U 0,O U 0,φ false]).cells (n * 8)).size = n * 8:=size_madeCells _ _
     have hnw:∀ j v,xs[j]? = some v -> (w.alloc (.cells (madeCells (Value.agg #[O U 0,O U 0,O U 0,O U 0,O U 0,O U 0,O U 0,φ false]).cells (n * 8)) 94)).cell? (Addr.add ⟨q,off,none⟩ j) = some v:=fun j v hv=>by rw [Addr.add_mid];exact (hb0.cell (p:=⟨q,off + j,none⟩) hq).trans (by rw [<- Addr.add_mid];exact hsrc j v hv)
   | guard_hyp z_3
     have hmk:=fun u=>Qe n h8 u
     have hw0:Aa (w.alloc (.cells (madeCells (Value.agg #[O U 0,O U 0]).cells (n * 2)) 118)) w.1.size 118 (madeCells (Value.agg #[O U 0,O U 0]).cells (n * 2)):=Aa.new w _ _
     have hb0:=Ap w (.cells (madeCells (Value.agg #[O U 0,O U 0]).cells (n * 2)) 118)
     have hsz:(madeCells (Value.agg #[O U 0,O U 0]).cells (n * 2)).size = n * 2:=size_madeCells _ _
     have hnw:∀ j v,xs[j]? = some v -> (w.alloc (.cells (madeCells (Value.agg #[O U 0,O U 0]).cells (n * 2)) 118)).cell? (Addr.add ⟨q,off,none⟩ j) = some v:=fun j v hv=>by rw [Addr.add_mid];exact (hb0.cell (p:=⟨q,off + j,none⟩) hq).trans (by rw [<- Addr.add_mid];exact hsrc j v hv)
   | have hmk:=fun u=>Sg n h8 u
     have hw0:Aa (w.alloc (.cells (madeCells (Value.agg #[O U 0,ψ none 0 0,O U 0,ψ none 0 0]).cells (n * 4)) 91)) w.1.size 91 (madeCells (Value.agg #[O U 0,ψ none 0 0,O U 0,ψ none 0 0]).cells (n * 4)):=Aa.new w _ _
     have hb0:=Ap w (.cells (madeCells (Value.agg #[O U 0,ψ none 0 0,O U 0,ψ none 0 0]).cells (n * 4)) 91)
     have hsz:(madeCells (Value.agg #[O U 0,ψ none 0 0,O U 0,ψ none 0 0]).cells (n * 4)).size = n * 4:=size_madeCells _ _
     have hnw:∀ j v,xs[j]? = some v -> (w.alloc (.cells (madeCells (Value.agg #[O U 0,ψ none 0 0,O U 0,ψ none 0 0]).cells (n * 4)) 91)).cell? (Addr.add ⟨q,off,none⟩ j) = some v:=fun j v hv=>by rw [Addr.add_mid];exact (hb0.cell (p:=⟨q,off + j,none⟩) hq).trans (by rw [<- Addr.add_mid];exact hsrc j v hv)
  have H0:=hid hnw
  have W0:=hid hw0
  have B0:=hid hb0
  have SZ0:=hid hsz
  have FL:=hid hl
  have F1:=hid h1
  clear hsrc hw0 hb0 hsz hnw hl h1 hq
  first
   | guard_hyp z_1
     generalize madeCells (Value.int U 0).cells (n * 1) = mc at hmk W0 B0 SZ0 H0
   | guard_hyp z_2
     generalize madeCells (Value.agg #[O U 0,O U 0,O U 0,O U 0,O U 0,O U 0,O U 0,φ false]).cells (n * 8) = mc at hmk W0 B0 SZ0 H0
   | guard_hyp z_3
     generalize madeCells (Value.agg #[O U 0,O U 0]).cells (n * 2) = mc at hmk W0 B0 SZ0 H0
   | generalize madeCells (Value.agg #[O U 0,ψ none 0 0,O U 0,ψ none 0 0]).cells (n * 4) = mc at hmk W0 B0 SZ0 H0
  have HL8:=hid h8
  have hn0:(0:Int) <= n:=by omega
  have hle:(n:Int) <= 1048576:=by omega
  clear h8
  first
   | guard_hyp z_1
     go_enter func143,ntmps143
   | guard_hyp z_2
     go_enter func141,ntmps141
   | guard_hyp z_3
     go_enter func140,ntmps140
   | go_enter func144,ntmps144
  go_upto_region 2 with fail
  have hw0:=W0.out
  have hb0:=B0.out
  have h0q:=H0.out
  clear hmk W0 B0 H0
  first
   | guard_hyp z_1
     have hs1:(w.alloc (.cells mc 2)).1.size = w.1.size + 1:=by simp
   | guard_hyp z_2
     have hs1:(w.alloc (.cells mc 94)).1.size = w.1.size + 1:=by simp
   | guard_hyp z_3
     have hs1:(w.alloc (.cells mc 118)).1.size = w.1.size + 1:=by simp
   | have hs1:(w.alloc (.cells mc 91)).1.size = w.1.size + 1:=by simp
  generalize World.alloc _ _ = w1 at hw0 hb0 h0q hs1 |-
  have hF:0 + xs.length <= mc.size:=by rw [FL.out,SZ0.out];omega
  first
   | guard_hyp z_1
     have hrun:=Dh (P:=prog) w1 24 24 3 2 w.1.size 0 n n ⟨q,off,none⟩ n cap mc 2 xs 1 underlying24 (by obtain ⟨i,hi,_,hs,_⟩:=MS;rw [hi];simp [hs]) hw0 (by rw [FL.out,show Nat.min n n = n from Nat.min_self n]) h0q hF F1.out
   | guard_hyp z_2
     have hrun:=Dh (P:=prog) w1 27 27 3 94 w.1.size 0 n n ⟨q,off,none⟩ n cap mc 94 xs 8 underlying27 (by obtain ⟨i,hi,_,hs,_⟩:=MR;rw [hi];simp [hs]) hw0 (by rw [FL.out,show Nat.min n n = n from Nat.min_self n]) h0q hF F1.out
   | guard_hyp z_3
     have hrun:=Dh (P:=prog) w1 28 28 3 118 w.1.size 0 n n ⟨q,off,none⟩ n cap mc 118 xs 2 underlying28 (by obtain ⟨i,hi,_,hs,_⟩:=Nt;rw [hi];simp [hs]) hw0 (by rw [FL.out,show Nat.min n n = n from Nat.min_self n]) h0q hF F1.out
   | have hrun:=Dh (P:=prog) w1 29 29 3 91 w.1.size 0 n n ⟨q,off,none⟩ n cap mc 91 xs 4 underlying29 (by obtain ⟨i,hi,_,hs,_⟩:=Qi;rw [hi];simp [hs]) hw0 (by rw [FL.out,show Nat.min n n = n from Nat.min_self n]) h0q hF F1.out
  rw [show Nat.min n n = n from Nat.min_self n,PS mc.toList xs (by rw [Array.length_toList,SZ0.out,FL.out];omega)] at hrun
  first
   | guard_hyp z_1
     have hg2:=hid (setRow_heap w1 w.1.size mc xs.toArray 2 _ hw0)
   | guard_hyp z_2
     have hg2:=hid (setRow_heap w1 w.1.size mc xs.toArray 94 _ hw0)
   | guard_hyp z_3
     have hg2:=hid (setRow_heap w1 w.1.size mc xs.toArray 118 _ hw0)
   | have hg2:=hid (setRow_heap w1 w.1.size mc xs.toArray 91 _ hw0)
  have hgb2:RowKit.Hid (w1.grownBy (w1.setRow w.1.size xs.toArray) (some w.1.size)):=hid ⟨rfl,rfl,rfl,by simp [World.setRow],fun k _ hk=>setRow_other w1 w.1.size k _ (by intro e;exact hk (by rw [e]))⟩
  have HB:=hid hb0
  have HS2:=hid (show (w1.setRow w.1.size xs.toArray).1.size = w.1.size + 1 by rw [setRow_size,hs1])
  generalize World.setRow w1 _ _ = w2 at hrun hg2 hgb2 HS2
  clear hw0 hb0 h0q hF hs1
  go_wp2_with fail
  go_ret
  exact ⟨rfl,hg2.out,HB.out.trans (EE hgb2.out HB.out.size (fun k e=>by injection e;omega)),HS2.out⟩
theorem QD:type_of% DP.1:=DP.1
theorem QW:type_of% DP.2.1:=DP.2.1
theorem QM:type_of% DP.2.2.1:=DP.2.2.1
theorem QU:type_of% DP.2.2.2:=DP.2.2.2
theorem BJ {w:World} {base g n size:Nat} {t:TypeId} {xs:List Value} (hg:Aa w g t xs.toArray) (hb:base <= g) (hl:xs.length = n * size) (h8:n <= maxLen):w.ownsRow base t size (ψ (some ⟨g,0,none⟩) n n) n xs:=
 ⟨hl,.inr ⟨g,n,xs.toArray,rfl,hb,hg,lr _,h8,by simp [hl],by simp [<- hl]⟩⟩
theorem Fj (A:Option Addr) (L:List Tru) (cap:Nat) (w:World) (h8:L.length <= 1048576) (hA:Trs w w.1.size A L):
    Calls prog 141 #[ψ A L.length cap] w fun e w'=>e = τ (ψ (some ⟨w.1.size,0,none⟩) L.length L.length) /\ Aa w' w.1.size 94 (Af truV L).toArray /\ Below w.1.size w w' /\ w'.1.size = w.1.size + 1:=by
 rcases Nat.eq_zero_or_pos L.length with h0 | h0
 ·have hx:Af truV L = []:=List.length_eq_zero_iff.1 (by rw [Ak AD,h0])
  rw [h0,hx]
  exact Kr A cap w
 ·obtain ⟨q,off,rfl,hq,_⟩:=hA 0 h0
  refine QW q off L.length cap (Af truV L) w h8 (Ak AD) (KL L) hq ?_
  intro j v hv
  obtain ⟨ad,e,hc⟩:=hA.news AD (by omega) j v hv
  injection e with e
  rw [e];exact hc
theorem EK (A:Option Addr) (L:List Ce) (cap:Nat) (w:World) (h8:L.length <= 1048576) (hA:Cls w w.1.size A L):
    Calls prog 140 #[ψ A L.length cap] w fun e w'=>e = τ (ψ (some ⟨w.1.size,0,none⟩) L.length L.length) /\ Aa w' w.1.size 118 (Af ceV L).toArray /\ Below w.1.size w w' /\ w'.1.size = w.1.size + 1:=by
 rcases Nat.eq_zero_or_pos L.length with h0 | h0
 ·have hx:Af ceV L = []:=List.length_eq_zero_iff.1 (by rw [Ak Au,h0])
  rw [h0,hx]
  exact Ll A cap w
 ·obtain ⟨q,off,rfl,hq,_⟩:=hA 0 h0
  refine QM q off L.length cap (Af ceV L) w h8 (Ak Au) (DW L) hq ?_
  intro j v hv
  obtain ⟨ad,e,hc⟩:=hA.news Au (by omega) j v hv
  injection e with e
  rw [e];exact hc
theorem Nb (A:Option Addr) (l:List Int) (cap:Nat) (w:World) (h8:l.length <= 1048576) (hA:Ints w U w.1.size A l):
    Calls prog 143 #[ψ A l.length cap] w fun e w'=>e = τ (ψ (some ⟨w.1.size,0,none⟩) l.length l.length) /\ Aa w' w.1.size 2 (l.map (Value.int U)).toArray /\ Below w.1.size w w' /\ w'.1.size = w.1.size + 1:=by
 rcases Nat.eq_zero_or_pos l.length with h0 | h0
 ·have hx:l = []:=List.length_eq_zero_iff.1 h0
  subst hx
  exact Lc A cap w
 ·obtain ⟨q,off,rfl,hq,_⟩:=hA 0 h0
  refine QD q off l.length cap (l.map (Value.int U)) w h8 (by simp) (by intro v hv;obtain ⟨i,_,rfl⟩:=List.mem_map.1 hv;rfl) hq ?_
  intro j v hv
  rw [List.getElem?_map] at hv
  cases hj:l[j]? with
  | none=>rw [hj] at hv;cases hv
  | some i=>
    rw [hj] at hv
    simp only [Option.map_some,Option.some.injEq] at hv
    subst hv
    have hlt:=(List.getElem?_eq_some_iff.1 hj).1
    obtain ⟨q',off',e,_,hc⟩:=hA j hlt
    simp only [Option.some.injEq,Addr.mk.injEq] at e
    obtain ⟨rfl,rfl,_⟩:=e
    rw [Addr.add_mid,hc,List.getD_eq_getElem?_getD,hj];rfl
theorem LZ (b off cap:Nat) (v0 v1 v2 v3 v4 v5 v6 v7:Value) (w:World) (h1:(#[v0,v1,v2,v3,v4,v5,v6,v7]:Array Value).all (·.oneCell') = true) (hb:b < w.1.size) (h0:w.cell? ⟨b,off,none⟩ = some v0) (g1:w.cell? ⟨b,off + 1,none⟩ = some v1) (g2:w.cell? ⟨b,off + 2,none⟩ = some v2) (g3:w.cell? ⟨b,off + 3,none⟩ = some v3)
    (g4:w.cell? ⟨b,off + 4,none⟩ = some v4) (g5:w.cell? ⟨b,off + 5,none⟩ = some v5) (g6:w.cell? ⟨b,off + 6,none⟩ = some v6) (g7:w.cell? ⟨b,off + 7,none⟩ = some v7):
    Calls prog 144 #[ψ (some ⟨b,off,none⟩) 2 cap] w fun e w'=>e = τ (ψ (some ⟨w.1.size,0,none⟩) 2 2) /\ Aa w' w.1.size 91 #[v0,v1,v2,v3,v4,v5,v6,v7] /\ Below w.1.size w w' /\ w'.1.size = w.1.size + 1:=by
 refine QU b off 2 cap [v0,v1,v2,v3,v4,v5,v6,v7] w (by decide) rfl (by simpa using h1) hb ?_
 intro j v hv
 rw [Addr.add_mid]
 have hj:j < 8:=(List.getElem?_eq_some_iff.1 hv).1
 rcases (by omega:j = 0 \/ j = 1 \/ j = 2 \/ j = 3 \/ j = 4 \/ j = 5 \/ j = 6 \/ j = 7) with rfl | rfl | rfl | rfl | rfl | rfl | rfl | rfl <;> simp only [List.getElem?_cons_zero,List.getElem?_cons_succ,Option.some.injEq] at hv <;> subst hv <;> assumption
structure VolG where
 key:Int
 counts:List Int
 trusts:List Tru
 cells:List Ce
 slots:List SlN
 count:Int
abbrev vG (x:VolG) (A:Option Addr) (a:Nat) (B:Option Addr) (b:Nat) (C:Option Addr) (c:Nat) (E:Option Addr) (e:Nat):Array Value:=#[O U x.key,ψ A x.counts.length a,ψ B x.trusts.length b,ψ C x.cells.length c,ψ E x.slots.length e,O U x.count]
def RdG (w:World) (Bd:Nat) (x:VolG) (v:Value):Prop:=
 ∃ A c B d C e E s,v = σ #[O U x.key,ψ A x.counts.length c,ψ B x.trusts.length d,ψ C x.cells.length e,ψ E x.slots.length s,O U x.count] /\ Ints w U Bd A x.counts /\ Trs w Bd B x.trusts /\ Cls w Bd C x.cells /\ DM w Bd E x.slots /\ x.counts.length <= c /\ x.slots.length <= s
theorem RdG.below {w u:World} {Bd D:Nat} {x:VolG} {v:Value} (h:RdG w Bd x v) (hb:Below D w u) (hD:Bd <= D):RdG u Bd x v:=by
 obtain ⟨A,c,B,d,C,e,E,s,rfl,h1,h2,h3,h4,h5⟩:=h
 exact ⟨A,c,B,d,C,e,E,s,rfl,h1.below hb hD,h2.below hb hD,h3.below hb hD,h4.below hb hD,h5⟩
theorem RdG.more {w:World} {Bd D:Nat} {x:VolG} {v:Value} (h:RdG w Bd x v) (hD:Bd <= D):RdG w D x v:=by
 obtain ⟨A,c,B,d,C,e,E,s,rfl,h1,h2,h3,h4,h5⟩:=h
 exact ⟨A,c,B,d,C,e,E,s,rfl,h1.more hD,h2.more hD,h3.more hD,h4.more hD,h5⟩
theorem RdG.grow {w u:World} {x:VolG} {v:Value} (h:RdG w w.1.size x v) (hb:Below w.1.size w u):RdG u u.1.size x v:=(h.below hb (lr _)).more hb.size
def VolG.Short (x:VolG):Prop:=x.counts.length <= 1048576 /\ x.trusts.length <= 1048576 /\ x.cells.length <= 1048576 /\ x.slots.length <= 1048576 /\ Qh x.slots
theorem Cg {w:World} {base e size n c g i:Nat} {xs:List Value} (h:w.ownsRow base e size (ψ (some ⟨g,0,none⟩) n c) n xs) (hi:i < n * size) (u:Value):
    (w.setCell ⟨g,i,none⟩ u).ownsRow base e size (ψ (some ⟨g,0,none⟩) n c) n (xs.set i u):=by
 refine ⟨by rw [List.length_set];exact h.1,?_⟩
 rcases h.2 with ⟨h0,_⟩ | ⟨g',cap,cur,e1,hb,hg,hnc,hcm,hcs,htake⟩
 ·cases h0
 ·simp only [Value.slice.injEq,Option.some.injEq,Addr.mk.injEq,and_true,true_and] at e1
  obtain ⟨rfl,rfl⟩:=e1
  refine .inr ⟨g,c,cur.setIfInBounds i u,rfl,hb,heap_setCell_same w g i cur e u hg,hnc,hcm,by simpa using hcs,?_⟩
  rw [Array.toList_setIfInBounds,List.take_set,htake]
section
variable {α:Type} [Inhabited α] {enc:α -> List Value} {n:Nat}
theorem Hj (hn:∀ x,(enc x).length = n) (L:List α) (k:Nat) (x:α) (hk:k < L.length):∀ i,i < L.length * n -> (Af enc (L.set k x))[i]? = if k * n <= i /\ i < (k + 1) * n then (enc x)[i - k * n]? else (Af enc L)[i]?:=by
 intro i hi
 have hp:0 < n:=by rcases Nat.eq_zero_or_pos n with h | h;subst h;simp at hi;exact h
 have hm:=Nat.mod_lt i hp
 have hd:i / n < L.length:=(Nat.div_lt_iff_lt_mul hp).2 hi
 have he:i / n * n + i % n = i:=by rw [Nat.mul_comm];exact Nat.div_add_mod i n
 have h1:(Af enc (L.set k x))[i]? = (enc ((L.set k x).getD (i / n) default))[i % n]?:=by
  have:=Fm (enc:=enc) (L:=L.set k x) hn (i / n) (i % n) (by rw [List.length_set];exact hd) hm
  rwa [he] at this
 have h2:(Af enc L)[i]? = (enc (L.getD (i / n) default))[i % n]?:=by
  have:=Fm (enc:=enc) (L:=L) hn (i / n) (i % n) hd hm
  rwa [he] at this
 rw [h1,h2,List.getD_eq_getElem?_getD,List.getD_eq_getElem?_getD,List.getElem?_set]
 by_cases hik:i / n = k
 ·subst hik
  rw [if_pos rfl,if_pos hd,if_pos ⟨by omega,by rw [Nat.succ_mul];omega⟩]
  simp only [Option.getD_some]
  congr 1;omega
 ·rw [if_neg (fun e=>hik e.symm),if_neg]
  rintro ⟨a,b⟩
  apply hik
  have c1:k <= i / n:=(Nat.le_div_iff_mul_le hp).2 a
  have c2:i / n < k + 1:=(Nat.div_lt_iff_lt_mul hp).2 b
  omega
end
theorem Bl.set_ {w:World} {base c g:Nat} {L:List Tru} {k:Nat} (h:Bl w base (ψ (some ⟨g,0,none⟩) L.length c) L) (hk:k < L.length) (t:Tru):
    Bl ((((((((w.setCell ⟨g,k * 8,none⟩ (O U t.clock)).setCell ⟨g,k * 8 + 1,none⟩ (O U t.epoch)).setCell ⟨g,k * 8 + 2,none⟩ (O U t.cursor)).setCell ⟨g,k * 8 + 3,none⟩ (O U t.read)).setCell ⟨g,k * 8 + 4,none⟩ (O U t.written)).setCell ⟨g,k * 8 + 5,none⟩ (O U t.nread)).setCell ⟨g,k * 8 + 6,none⟩ (O U t.nwritten)).setCell ⟨g,k * 8 + 7,none⟩ (φ t.failed)) base (ψ (some ⟨g,0,none⟩) L.length c) (L.set k t):=by
 have hb:(k + 1) * 8 <= L.length * 8:=Nat.mul_le_mul_right 8 hk
 have h8:=Cg (Cg (Cg (Cg (Cg (Cg (Cg (Cg h (i:=k * 8) (by omega) (O U t.clock)) (i:=k * 8 + 1) (by omega) (O U t.epoch)) (i:=k * 8 + 2) (by omega) (O U t.cursor)) (i:=k * 8 + 3) (by omega) (O U t.read)) (i:=k * 8 + 4) (by omega) (O U t.written)) (i:=k * 8 + 5) (by omega) (O U t.nread)) (i:=k * 8 + 6) (by omega) (O U t.nwritten)) (i:=k * 8 + 7) (by omega) (φ t.failed)
 unfold Bl SRow
 rw [List.length_set]
 have e:Af truV (L.set k t) = ((((((((Af truV L).set (k * 8) (O U t.clock)).set (k * 8 + 1) (O U t.epoch)).set (k * 8 + 2) (O U t.cursor)).set (k * 8 + 3) (O U t.read)).set (k * 8 + 4) (O U t.written)).set (k * 8 + 5) (O U t.nread)).set (k * 8 + 6) (O U t.nwritten)).set (k * 8 + 7) (φ t.failed):=by
  apply List.ext_getElem?
  intro i
  have hlen:(Af truV L).length = L.length * 8:=Ak AD
  rcases Nat.lt_or_ge i (L.length * 8) with hi | hi
  ·rw [Hj AD L k t hk i hi]
   simp only [List.getElem?_set,List.length_set,hlen]
   by_cases hin:k * 8 <= i /\ i < (k + 1) * 8
   ·rw [if_pos hin]
    obtain ⟨j,hj,rfl⟩:∃ j,j < 8 /\ i = k * 8 + j:=⟨i - k * 8,by omega,by omega⟩
    rw [Nat.add_sub_cancel_left]
    have hj8:j = 0 \/ j = 1 \/ j = 2 \/ j = 3 \/ j = 4 \/ j = 5 \/ j = 6 \/ j = 7:=by omega
    rcases hj8 with rfl | rfl | rfl | rfl | rfl | rfl | rfl | rfl <;> simp [truV] <;> omega
   ·rw [if_neg hin]
    repeat (rw [if_neg (by omega)])
  ·rw [List.getElem?_eq_none (by rw [Ak AD,List.length_set];exact hi),List.getElem?_eq_none (by simp only [List.length_set];rw [hlen];exact hi)]
 rw [e]
 exact h8
theorem Bv.set_ {w:World} {base c g:Nat} {L:List Ce} {k:Nat} (h:Bv w base (ψ (some ⟨g,0,none⟩) L.length c) L) (hk:k < L.length) (t:Ce):
    Bv ((w.setCell ⟨g,k * 2,none⟩ (O U t.1)).setCell ⟨g,k * 2 + 1,none⟩ (O U t.2)) base (ψ (some ⟨g,0,none⟩) L.length c) (L.set k t):=by
 have hb:(k + 1) * 2 <= L.length * 2:=Nat.mul_le_mul_right 2 hk
 have h8:=Cg (Cg h (i:=k * 2) (by omega) (O U t.1)) (i:=k * 2 + 1) (by omega) (O U t.2)
 unfold Bv SRow
 rw [List.length_set]
 have e:Af ceV (L.set k t) = ((Af ceV L).set (k * 2) (O U t.1)).set (k * 2 + 1) (O U t.2):=by
  apply List.ext_getElem?
  intro i
  have hlen:(Af ceV L).length = L.length * 2:=Ak Au
  rcases Nat.lt_or_ge i (L.length * 2) with hi | hi
  ·rw [Hj Au L k t hk i hi]
   simp only [List.getElem?_set,List.length_set,hlen]
   by_cases hin:k * 2 <= i /\ i < (k + 1) * 2
   ·rw [if_pos hin]
    obtain ⟨j,hj,rfl⟩:∃ j,j < 2 /\ i = k * 2 + j:=⟨i - k * 2,by omega,by omega⟩
    rw [Nat.add_sub_cancel_left]
    have hj8:j = 0 \/ j = 1:=by omega
    rcases hj8 with rfl | rfl <;> simp [ceV] <;> omega
   ·rw [if_neg hin]
    repeat (rw [if_neg (by omega)])
  ·rw [List.getElem?_eq_none (by rw [Ak Au,List.length_set];exact hi),List.getElem?_eq_none (by simp only [List.length_set];rw [hlen];exact hi)]
 rw [e]
 exact h8

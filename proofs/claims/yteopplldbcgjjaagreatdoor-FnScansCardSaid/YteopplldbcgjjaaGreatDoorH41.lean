import Derived.Test.YteopplldbcgjjaaGreatDoorH34
import Derived.Test.YteopplldbcgjjaaGreatDoorRows
import Derived.LaidLaws
import Derived.LaidMore
import Derived.LaidHandle
import Derived.Test.YteopplldbcgjjaaGreatDoorH03
import Derived.Test.YteopplldbcgjjaaGreatDoorH05
import Derived.OpenShut
import Derived.ShutString
import Derived.ChangeOld
namespace Go.Proofs.YteopplldbcgjjaaGreatDoor.Mx
open Go.ChangeShapes Go.WideShapes Go.RowKit
set_option linter.unusedVariables false
def Laid5 : List (String × DataW Unit) := [("errors.errorType", Rows.laid_errors_errorType), ("loop.example/g00775/impl.errBad", Rows.laid_loop_example_g00775_impl_errBad), ("loop.example/g00775/impl.errFailed", Rows.laid_loop_example_g00775_impl_errFailed), ("loop.example/g00775/impl.errSpent", Rows.laid_loop_example_g00775_impl_errSpent), ("loop.example/g00775/impl.errCaught", Rows.laid_loop_example_g00775_impl_errCaught)]
theorem xStar : "*" ++ "errors.errorString" = "*errors.errorString" := by decide
theorem xRowES (u : TypeId) (h : Tryz.prog.typeName? 3 u = some "*errors.errorString") : u = 212 :=
 typeName_ptr_named (nm := "errors.errorString") (by rw [xStar]; kernel_rfl) (by kernel_rfl) (by decide) u (by rw [xStar]; exact h)
theorem xCellsE : Tryz.prog.cellsOf 234 = 1 := by kernel_rfl
theorem xCellsS : Tryz.prog.cellsOf 9 = 1 := by kernel_rfl
theorem xG0 : Tryz.prog.globalNamed "loop.example/g00775/impl.errBad" = some 3 := by kernel_rfl
theorem xT0 : (Tryz.prog.globals[3]?).map (·.type) = some 69 := by kernel_rfl
theorem xG1 : Tryz.prog.globalNamed "loop.example/g00775/impl.errFailed" = some 0 := by kernel_rfl
theorem xT1 : (Tryz.prog.globals[0]?).map (·.type) = some 69 := by kernel_rfl
theorem xG2 : Tryz.prog.globalNamed "loop.example/g00775/impl.errSpent" = some 1 := by kernel_rfl
theorem xT2 : (Tryz.prog.globals[1]?).map (·.type) = some 69 := by kernel_rfl
theorem xG3 : Tryz.prog.globalNamed "loop.example/g00775/impl.errCaught" = some 2 := by kernel_rfl
theorem xT3 : (Tryz.prog.globals[2]?).map (·.type) = some 69 := by kernel_rfl
theorem xGE : Tryz.prog.globalNamed "errors.errorType" = some 4 := by kernel_rfl
theorem xRtype : (Tryz.prog.cutTypes.find? (·.1 == "internal/reflectlite.rtype")).map (·.2) = some 178 := by kernel_rfl
theorem xOneRow : ((List.range Tryz.prog.types.size).filter fun t => Tryz.prog.rowNamed t [101, 114, 114, 111, 114]) = [69] := by kernel_rfl
theorem xHandle : typeHandle Tryz.prog 69 = .pointer (some ⟨5, 69, none⟩) := by kernel_rfl
set_option maxRecDepth 100000 in
theorem sentinel_one {W : World} {n : String} {g : Nat} {text : List UInt8} {r : List (String × DataW Unit)} {ps : List MemPlace} (hg : Tryz.prog.globalNamed n = some g) (ht : (Tryz.prog.globals[g]?).map (·.type) = some 69)
    (h : DataW.LaidVars Tryz.prog W ((n, .iface "*errors.errorString" (.ptr (.agg [.lit (.string text)]))) :: r) ps)
    (hrows : ∀ b off, MemPlace.cell b off ∈ ps → (∃ c t, W.heap[b]? = some (.cells c t (0, 0))) ∧ ∀ u v, W.cell? ⟨b, off, none⟩ = some (.iface u v) → Value.okWide Tryz.prog W .any 0 u v) :
    ∃ a q n0, W.cell? ⟨g, 0, none⟩ = some (.iface 212 (.pointer (some a))) ∧ ps = n0 ++ MemPlace.row a 1 ++ q ∧ (∃ c t, W.heap[a.block]? = some (.cells c t (0, 0))) ∧ DataW.LaidVars Tryz.prog W r q := by
 obtain ⟨g', t', cs, f, p, q, hg', ht', hv, hd, hr, rfl⟩ := h
 obtain rfl := Option.some.inj (hg.symm.trans hg')
 obtain rfl := Option.some.inj (ht.symm.trans ht')
 obtain ⟨l0⟩ := cs
 have ok0 : ∀ u v, l0 = [.iface u v] → Value.okWide Tryz.prog W .any 0 u v := fun u v e => by
  subst e
  exact (hrows g 0 (by simp [MemPlace.row])).2 u v (by simpa using World.var?_cell hg' hv 0)
 obtain ⟨a0, s0, rfl, hc0, hs0, hz0, rfl⟩ := errorString_of_trod Tryz.underlying69 xRowES Tryz.underlying212 Tryz.underlying234 rfl rfl Tryz.underlying9 xCellsE xCellsS hd ok0
 exact ⟨a0, q, _, by simpa using World.var?_cell hg' hv 0, rfl, (hrows a0.block a0.off (by simp [MemPlace.row])).1, hr⟩
set_option maxRecDepth 100000 in
theorem errs_of_laid {W : World} (h : laidMetH Tryz.prog Laid5 W) : ∃ a0 a1 a2 a3, Errs W a0 a1 a2 a3 := by
 have h' : laidMet Tryz.prog [("loop.example/g00775/impl.errBad", Rows.laid_loop_example_g00775_impl_errBad), ("loop.example/g00775/impl.errFailed", Rows.laid_loop_example_g00775_impl_errFailed), ("loop.example/g00775/impl.errSpent", Rows.laid_loop_example_g00775_impl_errSpent), ("loop.example/g00775/impl.errCaught", Rows.laid_loop_example_g00775_impl_errCaught)] W ∧ handlesMet Tryz.prog [("errors.errorType", Rows.laid_errors_errorType)] W := h
 obtain ⟨⟨ps, hv, hnd, hrows⟩, hh⟩ := h'
 obtain ⟨a0, q0, n0, c0, rfl, r0, v0⟩ := sentinel_one xG0 xT0 hv hrows
 obtain ⟨a1, q1, n1, c1, rfl, r1, v1⟩ := sentinel_one xG1 xT1 v0 (fun b off hm => hrows b off (List.mem_append_right _ hm))
 obtain ⟨a2, q2, n2, c2, rfl, r2, v2⟩ := sentinel_one xG2 xT2 v1 (fun b off hm => hrows b off (List.mem_append_right _ (List.mem_append_right _ hm)))
 obtain ⟨a3, q3, n3, c3, rfl, r3, v3⟩ := sentinel_one xG3 xT3 v2 (fun b off hm => hrows b off (List.mem_append_right _ (List.mem_append_right _ (List.mem_append_right _ hm))))
 obtain ⟨name, u, ty, e1, e2, e3, e4, e5⟩ := hh _ (List.mem_singleton.2 rfl)
 have en : name = [101, 114, 114, 111, 114] := (Option.some.inj e1).symm
 subst en
 obtain rfl := Option.some.inj (xRtype.symm.trans e2)
 have hm : ty ∈ (List.range Tryz.prog.types.size).filter fun t => Tryz.prog.rowNamed t [101, 114, 114, 111, 114] := List.mem_filter.2 ⟨List.mem_range.2 e3, e4⟩
 rw [xOneRow] at hm
 obtain rfl := List.mem_singleton.1 hm
 rw [xHandle] at e5
 have l : ∀ (a : Addr), MemPlace.row a 1 = [MemPlace.cell a.block a.off] := fun a => by simp [MemPlace.row]
 simp only [l, List.append_assoc, List.singleton_append] at hnd
 have k0 := (List.nodup_append.1 hnd).2.1
 have m0 := (List.nodup_cons.1 k0).1
 have k1 := (List.nodup_append.1 (List.nodup_cons.1 k0).2).2.1
 have m1 := (List.nodup_cons.1 k1).1
 have k2 := (List.nodup_append.1 (List.nodup_cons.1 k1).2).2.1
 have m2 := (List.nodup_cons.1 k2).1
 refine ⟨a0, a1, a2, a3, by simpa using World.var?_cell xGE e5 0, ⟨c0, c1, c2, c3⟩, ⟨fun e => m0 ?_, fun e => m0 ?_, fun e => m0 ?_, fun e => m1 ?_, fun e => m1 ?_, fun e => m2 ?_⟩, r0, r1, r2, r3⟩
 all_goals (subst e; simp)
theorem trodVars_four {H : Type} {enc : TypeId × Value → H} {P : Program} {W : World} {sp : Nat → Bool} {n0 n1 n2 n3 : String} {gs : List (DataW H)} {ps : List MemPlace} (h : DataW.TrodVars enc P W sp [n0, n1, n2, n3] gs ps) : ∃ d0 d1 d2 d3, gs = [d0, d1, d2, d3] := by
 match gs, h with
 | [], h => exact h.elim
 | [_], h => obtain ⟨_, _, _, _, _, _, _, _, _, _, h, _⟩ := h; exact h.elim
 | [_, _], h => obtain ⟨_, _, _, _, _, _, _, _, _, _, h, _⟩ := h; obtain ⟨_, _, _, _, _, _, _, _, _, _, h, _⟩ := h; exact h.elim
 | [_, _, _], h => obtain ⟨_, _, _, _, _, _, _, _, _, _, h, _⟩ := h; obtain ⟨_, _, _, _, _, _, _, _, _, _, h, _⟩ := h; obtain ⟨_, _, _, _, _, _, _, _, _, _, h, _⟩ := h; exact h.elim
 | [a, b, c, d], _ => exact ⟨a, b, c, d, rfl⟩
 | _ :: _ :: _ :: _ :: _ :: _, h => obtain ⟨_, _, _, _, _, _, _, _, _, _, h, _⟩ := h; obtain ⟨_, _, _, _, _, _, _, _, _, _, h, _⟩ := h; obtain ⟨_, _, _, _, _, _, _, _, _, _, h, _⟩ := h; obtain ⟨_, _, _, _, _, _, _, _, _, _, h, _⟩ := h; exact h.elim
theorem door_met (os : Os) (args : Array Value) : laidMetH Tryz.prog Laid5 ((World.doorLaid Tryz.prog 400 os).forCall (fun _ _ => 0) ⟨#[], args, []⟩).memory :=
 laidMetH_of_parts3 (fuel := 8) (laidMet_of_run' 8 (by kernel_rfl) (by kernel_rfl)) (by kernel_rfl) (by kernel_rfl)
open Go.ChangeShapes Go.WideShapes Go.ChangeAt Go.RowKit
def IsRow (k : IntKind) (w : World) (a : Option Addr) (len cap : Nat) (zs : List Int) : Prop :=
 (a = none ∧ len = 0 ∧ cap = 0 ∧ zs = []) ∨
 ∃ x, a = some x ∧ len ≤ cap ∧ cap ≤ maxLen ∧ zs.length = cap ∧ (∀ i, i < zs.length → w.cell? (x.add i) = some (.int k (zs.getD i 0))) ∧ ∀ n ∈ zs, (Lit.int k n).wf = true
section
variable {H : Type} {enc : TypeId × Value → H} {P : Program} {w : World} {base : Nat} {spare : Nat → Bool} {held : Bool}
theorem row_of_trod {t e : TypeId} {k : IntKind} {a : Option Addr} {len cap : Nat} {d : DataW H} {p : List MemPlace} (ht : P.underlying t = some (.slice e)) (he : P.underlying e = some (.int k)) (hc : P.cellsOf e = 1)
    (h : DataW.Trod enc P w base (fun _ => true) held t (.slice a len cap) d p) : ∃ zs, IsRow k w a len cap zs := by
 obtain ⟨fuel, hf⟩ := h
 rcases open_ints ht he hc hf with ⟨hcs, _⟩ | ⟨x, l, c, zs, hcs, _, hl, hm, hz, _, hcell, hwz⟩
 ·simp [Value.cells] at hcs
  obtain ⟨rfl, rfl, rfl⟩ := hcs
  exact ⟨[], .inl ⟨rfl, rfl, rfl, rfl⟩⟩
 ·simp [Value.cells] at hcs
  obtain ⟨rfl, rfl, rfl⟩ := hcs
  exact ⟨zs, .inr ⟨_, rfl, hl, hm, by simpa using hz, hcell, hwz⟩⟩
end
end Go.Proofs.YteopplldbcgjjaaGreatDoor.Mx

import Derived.WalkKit
import Derived.ProofKit
import Derived.Below
import Derived.IntWalk
import Derived.Deep.Draws
import Derived.Laws.Rows
import Derived.Lib.Hide
import Derived.Test.YteopplldbcgjjaaGreatDoorProg
import Derived.LaidEql
import Derived.Stop.Asserts
import Derived.RowKitTokens
import Derived.Test.YteopplldbcgjjaaGreatDoorRows
import Derived.OpenShut
import Derived.Deep.QuietTactic
import Derived.BigQuiet
namespace Go.Proofs.YteopplldbcgjjaaGreatDoor.Mx
open Go.RowKit
set_option linter.unusedVariables false
def Ints (w : World) (k : IntKind) (B : Nat) (A : Option Addr) (l : List Int) : Prop :=
  ∀ i, i < l.length → ∃ b off, A = some ⟨b, off, none⟩ ∧ b < B ∧ w.cell? ⟨b, off + i, none⟩ = some (.int k (l.getD i 0))
theorem Ints.below {w w' : World} {k : IntKind} {B B' : Nat} {A : Option Addr} {l : List Int} (h : Ints w k B A l) (hb : Below B' w w') (hB : B ≤ B') : Ints w' k B A l := by
  intro i hi
  obtain ⟨b, off, rfl, hlt, hc⟩ := h i hi
  exact ⟨b, off, rfl, hlt, (hb.cell (p := ⟨b, off + i, none⟩) (Nat.lt_of_lt_of_le hlt hB)).trans hc⟩
theorem Ints.more {w : World} {k : IntKind} {B B' : Nat} {A : Option Addr} {l : List Int} (h : Ints w k B A l) (hB : B ≤ B') : Ints w k B' A l := by
  intro i hi
  obtain ⟨b, off, rfl, hlt, hc⟩ := h i hi
  exact ⟨b, off, rfl, by omega, hc⟩
theorem Ints.nil {w : World} {k : IntKind} {B : Nat} {A : Option Addr} : Ints w k B A [] := by
  intro i hi; simp at hi
def Fine (l : List Int) : Prop := ∀ i, i < l.length → 0 ≤ l.getD i 0
def I64s (l : List Int) : Prop := ∀ i, i < l.length → -9223372036854775808 ≤ l.getD i 0 ∧ l.getD i 0 ≤ 9223372036854775807
def roll (f m s : Int) (l : List Int) : Int := l.foldl (fun s n => (s * f + n % m + 1) % m) s
theorem roll_take (f m s : Int) (l : List Int) (k : Nat) (h : k < l.length) : roll f m s (l.take (k + 1)) = (roll f m s (l.take k) * f + l.getD k 0 % m + 1) % m := by
  unfold roll
  rw [List.take_succ_eq_append_getElem h, List.foldl_append]
  simp [List.getD_eq_getElem?_getD, h]
theorem roll_bd (f m s : Int) (l : List Int) (hm : 0 < m) (h0 : 0 ≤ s) (h1 : s < m) : 0 ≤ roll f m s l ∧ roll f m s l < m := by
  unfold roll
  induction l generalizing s with
  | nil => exact ⟨h0, h1⟩
  | cons a l ih => exact ih _ (Int.emod_nonneg _ (by omega)) (Int.emod_lt_of_pos _ hm)
theorem roll_all (f m s : Int) (l : List Int) : roll f m s (l.take l.length) = roll f m s l := by rw [List.take_length]
open Classical in
noncomputable def mixOf (key : Int) (l : List Int) : Int :=
  if (1 ≤ key ∧ key ≤ 1000000) ∧ Fine l then roll 131 2147483647 (7 + key) l * 2147483648 + roll 137 2147483629 (11 + 2 * key) l else -1
theorem mixOf_yes {key : Int} {l : List Int} (h0 : 1 ≤ key) (h1 : key ≤ 1000000) (hf : Fine l) : mixOf key l = roll 131 2147483647 (7 + key) l * 2147483648 + roll 137 2147483629 (11 + 2 * key) l := by
  unfold mixOf; rw [if_pos ⟨⟨h0, h1⟩, hf⟩]
theorem mixOf_key {key : Int} {l : List Int} (h : key < 1 ∨ 1000000 < key) : mixOf key l = -1 := by
  unfold mixOf; rw [if_neg (by omega)]
theorem mixOf_neg {key : Int} {l : List Int} (h : ¬ Fine l) : mixOf key l = -1 := by
  unfold mixOf; rw [if_neg (fun h' => h h'.2)]
theorem not_fine {l : List Int} (h : ¬ Fine l) : ∃ i, i < l.length ∧ l.getD i 0 < 0 := by
  refine Classical.byContradiction fun hn => h fun i hi => ?_
  refine Classical.byContradiction fun hc => hn ⟨i, hi, by omega⟩
/-! ### Worlds that part in one block -/
theorem gb_refl (w : World) (r : Option Nat) : w.grownBy w r := ⟨rfl, rfl, rfl, Nat.le_refl _, fun _ _ _ => rfl⟩
theorem gb_trans {a b c : World} {r : Option Nat} (h : a.grownBy b r) (k : b.grownBy c r) : a.grownBy c r :=
  ⟨k.os.trans h.os, k.tape.trans h.tape, k.output.trans h.output, Nat.le_trans h.size k.size, fun i hi hr => (k.block i (Nat.lt_of_lt_of_le hi h.size) hr).trans (h.block i hi hr)⟩
theorem gb_set {a b : World} {g : Nat} (h : a.grownBy b (some g)) (j : Nat) (u : Value) : a.grownBy (b.setCell ⟨g, j, none⟩ u) (some g) :=
  gb_trans h ⟨rfl, rfl, rfl, by simp [World.setCell], fun k _ hk => Below.heap_setCell _ _ _ _ (fun e => hk (by rw [e]))⟩
theorem gb_alloc {a b : World} {r : Option Nat} (h : a.grownBy b r) (o : Obj) : a.grownBy (b.alloc o) r :=
  gb_trans h ⟨rfl, rfl, rfl, by simp, fun k hk _ => Below.heap_alloc _ _ _ hk⟩
theorem bgb {B : Nat} {a b c : World} {g : Nat} (h : Below B a b) (hg : b.grownBy c (some g)) (hB : B ≤ b.heap.size) (hr : B ≤ g) : Below B a c :=
  h.grown hg hB (fun k e => by injection e with e; omega)
def CellsAt (w : World) (g : Nat) (t : TypeId) (cs : Array Value) : Prop := w.heap[g]? = some (Obj.cells cs t (0, 0))
namespace CellsAt
variable {w v : World} {g : Nat} {t : TypeId} {cs : Array Value}
theorem lt (h : CellsAt w g t cs) : g < w.heap.size := (Array.getElem?_eq_some_iff.1 h).1
theorem cell (h : CellsAt w g t cs) (i : Nat) : w.cell? ⟨g, i, none⟩ = cs[i]? := by
  have e : w.heap[g]? = some (Obj.cells cs t (0, 0)) := h
  simp [World.cell?, e]
theorem frozen (h : CellsAt w g t cs) (i : Nat) : w.frozen? ⟨g, i, none⟩ = false := by
  have e : w.heap[g]? = some (Obj.cells cs t (0, 0)) := h
  simp [World.frozen?, e]
theorem new (w : World) (t : TypeId) (cs : Array Value) : CellsAt (w.alloc (.cells cs t)) w.heap.size t cs := by
  show (w.heap.push _)[w.heap.size]? = _
  simp
theorem drew (h : CellsAt w g t cs) : CellsAt w.drew g t cs := h
theorem set_ (h : CellsAt w g t cs) (i : Nat) (u : Value) : CellsAt (w.setCell ⟨g, i, none⟩ u) g t (cs.setIfInBounds i u) := heap_setCell_same w g i cs t u h
theorem below {B : Nat} (h : CellsAt w g t cs) (hb : Below B w v) (hg : g < B) : CellsAt v g t cs := by
  show v.heap[g]? = _
  rw [hb.block g hg]; exact h
theorem grown {row : Option Nat} (h : CellsAt w g t cs) (hb : w.grownBy v row) (hg : some g ≠ row) : CellsAt v g t cs := by
  show v.heap[g]? = _
  rw [hb.block g h.lt hg]; exact h
end CellsAt
/-! ### A block of numbers that the call lays itself -/
theorem I64s.nil : I64s [] := by intro i hi; simp at hi
theorem I64s.cons {a : Int} {l : List Int} (h0 : -9223372036854775808 ≤ a) (h1 : a ≤ 9223372036854775807) (h : I64s l) : I64s (a :: l) := by
  intro i hi
  cases i with
  | zero => exact ⟨h0, h1⟩
  | succ j => exact h j (by simpa using hi)
theorem CellsAt.ints {w : World} {g : Nat} {t : TypeId} {zs : List Int} (h : CellsAt w g t ((zs.map (Value.int .i64)).toArray)) {k : Nat} (hk : k < zs.length) : w.cell? ⟨g, k, none⟩ = some (.int .i64 (zs.getD k 0)) := by
  rw [h.cell]
  simp [List.getD_eq_getElem?_getD, hk]
theorem CellsAt.reads {w : World} {g : Nat} {t : TypeId} (zs : List Int) (h : CellsAt w g t ((zs.map (Value.int .i64)).toArray)) : Ints w .i64 (g + 1) (some ⟨g, 0, none⟩) zs := by
  intro i hi
  exact ⟨g, 0, rfl, by omega, by rw [Nat.zero_add]; exact h.ints hi⟩
/-! ### A row that the call appends to -/
end Go.Proofs.YteopplldbcgjjaaGreatDoor.Mx
namespace Go.Proofs.YteopplldbcgjjaaGreatDoor.Mx
open Go.RowKit
set_option linter.unusedVariables false
abbrev Box := Nat × TypeId × Array Value
def Kept (b : World) (L : List Box) (w : World) : Prop := Below b.heap.size b w ∧ ∀ x ∈ L, b.heap.size ≤ x.1 ∧ CellsAt w x.1 x.2.1 x.2.2
namespace Kept
variable {b u w : World} {L : List Box} {g p : Nat} {t : TypeId} {cs : Array Value}
theorem refl (b : World) : Kept b [] b := ⟨Below.refl _ _, fun x hx => by cases hx⟩
theorem below (h : Kept b L u) (hb : Below u.heap.size u w) : Kept b L w := ⟨h.1.trans (hb.mono h.1.size), fun x hx => ⟨(h.2 x hx).1, (h.2 x hx).2.below hb (h.2 x hx).2.lt⟩⟩
theorem grown (h : Kept b L u) (hb : u.grownBy w (some g)) (hg : b.heap.size ≤ g) (hne : ∀ x ∈ L, x.1 ≠ g) : Kept b L w :=
  ⟨bgb h.1 hb h.1.size hg, fun x hx => ⟨(h.2 x hx).1, (h.2 x hx).2.grown hb (by intro e; injection e with e; exact hne x hx e)⟩⟩
theorem alloc (h : Kept b L w) (o : Obj) : Kept b L (w.alloc o) := h.below ((Below.refl _ _).alloc (Nat.le_refl _) _)
theorem new (h : Kept b L w) (t : TypeId) (cs : Array Value) : Kept b ((w.heap.size, t, cs) :: L) (w.alloc (.cells cs t)) := by
  refine ⟨(h.alloc _).1, fun x hx => ?_⟩
  rcases List.mem_cons.1 hx with rfl | hx
  · exact ⟨h.1.size, CellsAt.new w t cs⟩
  · exact (h.alloc _).2 x hx
theorem drew (h : Kept b L w) : Kept b L w.drew := ⟨h.1.drew, h.2⟩
theorem tail {x : Box} (h : Kept b (x :: L) w) : Kept b L w := ⟨h.1, fun y hy => h.2 y (List.mem_cons_of_mem _ hy)⟩
theorem sub {L' : List Box} (h : Kept b L w) (hs : ∀ x ∈ L', x ∈ L) : Kept b L' w := ⟨h.1, fun y hy => h.2 y (hs y hy)⟩
theorem set (h : Kept b ((p, t, cs) :: L) w) (hne : ∀ x ∈ L, x.1 ≠ p) (i : Nat) (v : Value) : Kept b ((p, t, cs.setIfInBounds i v) :: L) (w.setCell ⟨p, i, none⟩ v) := by
  have hp := h.2 _ (List.mem_cons_self ..)
  refine ⟨h.1.setCell hp.1 _, fun x hx => ?_⟩
  rcases List.mem_cons.1 hx with rfl | hx
  · exact ⟨hp.1, hp.2.set_ i v⟩
  · exact ⟨(h.2 x (List.mem_cons_of_mem _ hx)).1, (h.2 x (List.mem_cons_of_mem _ hx)).2.grown (gb_set (gb_refl w (some p)) i v) (by intro e; injection e with e; exact hne x hx e)⟩
theorem at_ (h : Kept b L w) (hm : (p, t, cs) ∈ L) : CellsAt w p t cs := (h.2 _ hm).2
theorem cell (h : Kept b L w) (hm : (p, t, cs) ∈ L) (i : Nat) : w.cell? ⟨p, i, none⟩ = cs[i]? := (h.2 _ hm).2.cell i
theorem frozen (h : Kept b L w) (hm : (p, t, cs) ∈ L) (i : Nat) : w.frozen? ⟨p, i, none⟩ = false := (h.2 _ hm).2.frozen i
theorem lt (h : Kept b L w) {x : Box} (hx : x ∈ L) : x.1 < w.heap.size := (h.2 x hx).2.lt
theorem apart (h : Kept b L w) : ∀ x ∈ L, x.1 ≠ w.heap.size := fun x hx => Nat.ne_of_lt (h.lt hx)
theorem three {x y z : Value} (h : Kept b ((p, t, #[x, y, z]) :: L) w) : w.cell? ⟨p, 0, none⟩ = some x ∧ w.cell? ⟨p, 1, none⟩ = some y ∧ w.cell? ⟨p, 2, none⟩ = some z :=
  ⟨h.cell (List.mem_cons_self ..) 0, h.cell (List.mem_cons_self ..) 1, h.cell (List.mem_cons_self ..) 2⟩
end Kept
end Go.Proofs.YteopplldbcgjjaaGreatDoor.Mx
namespace Go.Proofs.YteopplldbcgjjaaGreatDoor.Mx
open Go.RowKit Go.Extern.Stop Go.Stop Go.Extern
set_option linter.unusedVariables false
abbrev hErr : Value := .iface 178 (.agg #[.pointer (some ⟨5, 69, none⟩)])
theorem xValueOfPP (t : Addr) (w : World) : (ReflectliteValue.unpack (.iface 120 (.pointer (some t)))).run Tryz.prog w
    = .ok (.agg #[.pointer (some ⟨5, 120, none⟩), .pointer (some ⟨w.heap.size, 0, none⟩), .int .u64 150]) (w.alloc (.cells #[.pointer (some t)] 120)) := by kernel_rfl
theorem xTypePP (a : Addr) (w : World) : (ReflectliteValue.methodAny (ReflectliteValue.valueError "reflectlite.Value.Type" 0) (fun t _ _ _ => ReflectliteType.toType t) #[.agg #[.pointer (some ⟨5, 120, none⟩), .pointer (some a), .int .u64 150]]).run Tryz.prog w
    = .ok (.iface 178 (.agg #[.pointer (some ⟨5, 120, none⟩)])) w := by kernel_rfl
theorem xMethodKind (h : Value) (w : World) : (Go.method 346 178 (.agg #[h]) "Kind").run Tryz.prog w = .ok (177, h) w := by kernel_rfl
theorem xKindPP (w : World) : ((ReflectliteType.abiMethod fun t => (fun a : Nat => Value.int IntKind.u8 (a : Int)) <$> Rtype.kind t) #[.pointer (some ⟨5, 120, none⟩)]).run Tryz.prog w = .ok (.int .u8 22) w := by kernel_rfl
theorem xKindP (w : World) : ((ReflectliteType.abiMethod fun t => (fun a : Nat => Value.int IntKind.u8 (a : Int)) <$> Rtype.kind t) #[.pointer (some ⟨5, 118, none⟩)]).run Tryz.prog w = .ok (.int .u8 22) w := by kernel_rfl
theorem xRlm (z : Sem Value) (f : TypeId → Addr → Nat → Nat → Sem Value) (v : Value) :
    ReflectliteValue.method z f #[v] = (do match ← ReflectliteValue.parts v with | none => z | some (t, a, fl) => f t a fl (fl % 32)) := rfl
theorem xPartsPP (a : Addr) (w : World) : (ReflectliteValue.parts (.agg #[.pointer (some ⟨5, 120, none⟩), .pointer (some a), .int .u64 150])).run Tryz.prog w = .ok (some (120, a, 150)) w := by kernel_rfl
theorem xIsNilPP (a p : Addr) (W : World) (ha : W.cell? a = some (.pointer (some p))) :
    (ReflectliteValue.method (ReflectliteValue.valueError "reflectlite.Value.IsNil" 0) ReflectliteValue.isNil #[.agg #[.pointer (some ⟨5, 120, none⟩), .pointer (some a), .int .u64 150]]).run Tryz.prog W = .ok (.bool false) W := by
  rw [xRlm]
  simp only [Sem.run_bind, xPartsPP, Result.andThen]
  simp [ReflectliteValue.isNil, loadVar, isAgg, underlying, Tryz.underlying120, ha, Result.andThen]
theorem xMethodElem (h : Value) (w : World) : (Go.method 346 178 (.agg #[h]) "Elem").run Tryz.prog w = .ok (188, .agg #[h]) w := by kernel_rfl
theorem xMethodImplements (h : Value) (w : World) : (Go.method 346 178 (.agg #[h]) "Implements").run Tryz.prog w = .ok (189, .agg #[h]) w := by kernel_rfl
theorem xMethodAssignableTo (h : Value) (w : World) : (Go.method 346 178 (.agg #[h]) "AssignableTo").run Tryz.prog w = .ok (186, .agg #[h]) w := by kernel_rfl
theorem xElemPP (w : World) : (ReflectliteType.method ReflectliteType.elem #[.agg #[.pointer (some ⟨5, 120, none⟩)]]).run Tryz.prog w = .ok (.iface 178 (.agg #[.pointer (some ⟨5, 118, none⟩)])) w := by kernel_rfl
theorem xImplementsP (w : World) : (ReflectliteType.relation "Implements" ReflectliteType.implements_ #[.agg #[.pointer (some ⟨5, 118, none⟩)], hErr]).run Tryz.prog w = .ok (.bool true) w := by kernel_rfl
theorem xTypeOfP (v : Value) (w : World) : (ReflectliteType.typeOf #[.iface 118 v]).run Tryz.prog w = .ok (.iface 178 (.agg #[.pointer (some ⟨5, 118, none⟩)])) w := by kernel_rfl
theorem xAssignableP (w : World) : (ReflectliteType.relation "AssignableTo" ReflectliteType.assignableTo #[.agg #[.pointer (some ⟨5, 118, none⟩)], .iface 178 (.agg #[.pointer (some ⟨5, 118, none⟩)])]).run Tryz.prog w = .ok (.bool true) w := by kernel_rfl
theorem xValueOfP (e : Addr) (w : World) : (ReflectliteValue.unpack (.iface 118 (.pointer (some e)))).run Tryz.prog w
    = .ok (.agg #[.pointer (some ⟨5, 118, none⟩), .pointer (some ⟨w.heap.size, 0, none⟩), .int .u64 150]) (w.alloc (.cells #[.pointer (some e)] 118)) := by kernel_rfl
theorem xElemOfPP (w : World) : (Rtype.elem? 120).run Tryz.prog w = .ok (some 118) w := by kernel_rfl
theorem xMkP (p : Addr) (w : World) : (ReflectliteValue.mk 118 p ReflectliteValue.flagAddr).run Tryz.prog w = .ok (.agg #[.pointer (some ⟨5, 118, none⟩), .pointer (some p), .int .u64 406]) w := by kernel_rfl
theorem xElemVPP (a p : Addr) (W : World) (ha : W.cell? a = some (.pointer (some p))) :
    (ReflectliteValue.method (ReflectliteValue.valueError "reflectlite.Value.Elem" 0) ReflectliteValue.elem #[.agg #[.pointer (some ⟨5, 120, none⟩), .pointer (some a), .int .u64 150]]).run Tryz.prog W
      = .ok (.agg #[.pointer (some ⟨5, 118, none⟩), .pointer (some p), .int .u64 406]) W := by
  rw [xRlm]
  simp only [Sem.run_bind, xPartsPP, Result.andThen]
  simp [ReflectliteValue.elem, loadVar, isAgg, underlying, Tryz.underlying120, ha, Result.andThen, xElemOfPP, xMkP]
theorem xRls (v x : Value) : ReflectliteValue.set #[v, x] = (do
    let (some (dst, a, fl), some (src, b, _)) := (← ReflectliteValue.parts v, ← ReflectliteValue.parts x)
      | unsupported (.noEntry "extern/(internal/reflectlite.Value).Set.zeroValue")
    if fl / ReflectliteValue.flagAddr % 2 == 0 then unsupported (.noEntry "extern/(internal/reflectlite.Value).Set.unaddressable")
    let val ← loadVar src b
    if ← Rtype.directlyAssignable dst src then storeVar dst a val
    else if ← Rtype.implements dst src then
      if (← Rtype.kind src) == 20 then
        match val with
        | .nilIface => unsupported (.noEntry "extern/reflectlite: a nil value of one interface type handed on as a value of another")
        | _ => storeVar dst a val
      else storeVar dst a (.iface src val)
    else panicString ("reflectlite.Set: value of type " ++ (← Rtype.spelt src) ++ " is not assignable to type " ++ (← Rtype.spelt dst))
    pure (.tuple #[])) := rfl
theorem xPartsPa (a : Addr) (w : World) : (ReflectliteValue.parts (.agg #[.pointer (some ⟨5, 118, none⟩), .pointer (some a), .int .u64 406])).run Tryz.prog w = .ok (some (118, a, 406)) w := by kernel_rfl
theorem xPartsP (a : Addr) (w : World) : (ReflectliteValue.parts (.agg #[.pointer (some ⟨5, 118, none⟩), .pointer (some a), .int .u64 150])).run Tryz.prog w = .ok (some (118, a, 150)) w := by kernel_rfl
theorem xDirectP (w : World) : (Rtype.directlyAssignable 118 118).run Tryz.prog w = .ok true w := by kernel_rfl
theorem xSetP (ta b e : Addr) (old : Value) (W : World) (hb : W.cell? b = some (.pointer (some e))) (ht : W.cell? ta = some old) (hf : W.frozen? ta = false) :
    (ReflectliteValue.set #[.agg #[.pointer (some ⟨5, 118, none⟩), .pointer (some ta), .int .u64 406], .agg #[.pointer (some ⟨5, 118, none⟩), .pointer (some b), .int .u64 150]]).run Tryz.prog W
      = .ok (.tuple #[]) (W.setCell ta (.pointer (some e))) := by
  rw [xRls]
  simp only [Sem.run_bind, xPartsPa, xPartsP, Result.andThen]
  simp [ReflectliteValue.flagAddr, loadVar, isAgg, underlying, Tryz.underlying118, hb, Result.andThen, xDirectP, storeVar, Value.cells, storeCells, Addr.add]
  rw [run_store Tryz.prog W ta _ _ (by rfl)]
  simp [ht, hf]
set_option maxHeartbeats 4000000 in
theorem as_hit (e t : Addr) (old : Value) (w : World) (hg : w.cell? ⟨4, 0, none⟩ = some hErr) (ht0 : w.cell? t = some old) (hf0 : w.frozen? t = false) :
    Calls Tryz.prog 71 #[.iface 118 (.pointer (some e)), .iface 120 (.pointer (some t))] w fun ev w' => ev = .returned (.bool true) ∧ w' = ((((w.alloc (.cells #[.pointer (some t)] 120)).alloc (.cells #[.pointer (some ⟨5, 120, none⟩), .pointer (some ⟨w.heap.size, 0, none⟩), .int .u64 150] 150)).alloc (.cells #[.pointer (some ⟨5, 120, none⟩), .pointer (some ⟨w.heap.size, 0, none⟩), .int .u64 150] 150)).alloc (.cells #[.pointer (some e)] 118)).setCell t (.pointer (some e)) := by
  have h6 := @run_callFunc_extern Tryz.prog 107 _ (fun args => ReflectliteValue.unpack (args.getD 0 (.tuple #[]))) Tryz.func107 (by kernel_rfl) (by kernel_rfl) (by kernel_rfl) (by kernel_rfl)
  have h7 := @run_callFunc_extern Tryz.prog 108 _ (ReflectliteValue.methodAny (ReflectliteValue.valueError "reflectlite.Value.Type" 0) (fun t _ _ _ => ReflectliteType.toType t)) Tryz.func108 (by kernel_rfl) (by kernel_rfl) (by kernel_rfl) (by kernel_rfl)
  have h8 := @run_callFunc_extern Tryz.prog 109 _ (ReflectliteValue.method (ReflectliteValue.valueError "reflectlite.Value.IsNil" 0) ReflectliteValue.isNil) Tryz.func109 (by kernel_rfl) (by kernel_rfl) (by kernel_rfl) (by kernel_rfl)
  have h27 := @run_callFunc_extern Tryz.prog 177 _ (ReflectliteType.abiMethod fun t => do pure (.int .u8 (← Rtype.kind t))) Tryz.func177 (by kernel_rfl) (by kernel_rfl) (by kernel_rfl) (by kernel_rfl)
  have h37 := @run_callFunc_extern Tryz.prog 188 _ (ReflectliteType.method ReflectliteType.elem) Tryz.func188 (by kernel_rfl) (by kernel_rfl) (by kernel_rfl) (by kernel_rfl)
  have h38 := @run_callFunc_extern Tryz.prog 189 _ (ReflectliteType.relation "Implements" ReflectliteType.implements_) Tryz.func189 (by kernel_rfl) (by kernel_rfl) (by kernel_rfl) (by kernel_rfl)
  have h10 := @run_callFunc_extern Tryz.prog 111 _ ReflectliteType.typeOf Tryz.func111 (by kernel_rfl) (by kernel_rfl) (by kernel_rfl) (by kernel_rfl)
  have h35 := @run_callFunc_extern Tryz.prog 186 _ (ReflectliteType.relation "AssignableTo" ReflectliteType.assignableTo) Tryz.func186 (by kernel_rfl) (by kernel_rfl) (by kernel_rfl) (by kernel_rfl)
  have h11 := @run_callFunc_extern Tryz.prog 141 _ (ReflectliteValue.method (ReflectliteValue.valueError "reflectlite.Value.Elem" 0) ReflectliteValue.elem) Tryz.func141 (by kernel_rfl) (by kernel_rfl) (by kernel_rfl) (by kernel_rfl)
  have h12 := @run_callFunc_extern Tryz.prog 142 _ ReflectliteValue.set Tryz.func142 (by kernel_rfl) (by kernel_rfl) (by kernel_rfl) (by kernel_rfl)
  have tO := xTypeOfP
  have mA := xMethodAssignableTo
  have a25 := xAssignableP
  have v25 := xValueOfP
  have f6 := xValueOfPP
  have f7 := xTypePP
  have mK := xMethodKind
  have mE := xMethodElem
  have mI := xMethodImplements
  have k27 := xKindPP
  have k25 := xKindP
  have e27 := xElemPP
  have i25 := xImplementsP
  have n8 := xIsNilPP ⟨w.heap.size, 0, none⟩ t ((w.alloc (.cells #[.pointer (some t)] 120)).alloc (.cells #[.pointer (some ⟨5, 120, none⟩), .pointer (some ⟨w.heap.size, 0, none⟩), .int .u64 150] 150)) (by simp)
  have hlt : 4 < w.heap.size := by
    rcases Nat.lt_or_ge 4 w.heap.size with h | h
    · exact h
    · simp [World.cell?, Array.getElem?_eq_none h] at hg
  have hg2 : ((w.alloc (.cells #[.pointer (some t)] 120)).alloc (.cells #[.pointer (some ⟨5, 120, none⟩), .pointer (some ⟨w.heap.size, 0, none⟩), .int .u64 150] 150)).cell? ⟨4, 0, none⟩ = some hErr := by
    rw [World.cell?_alloc_lt _ _ ⟨4, 0, none⟩ (by simp; omega), World.cell?_alloc_lt _ _ ⟨4, 0, none⟩ hlt]; exact hg
  have htl : t.block < w.heap.size := by
    rcases Nat.lt_or_ge t.block w.heap.size with h | h
    · exact h
    · simp [World.cell?, Array.getElem?_eq_none h] at ht0
  have el := xElemVPP ⟨w.heap.size, 0, none⟩ t (((w.alloc (.cells #[.pointer (some t)] 120)).alloc (.cells #[.pointer (some ⟨5, 120, none⟩), .pointer (some ⟨w.heap.size, 0, none⟩), .int .u64 150] 150)).alloc (.cells #[.pointer (some ⟨5, 120, none⟩), .pointer (some ⟨w.heap.size, 0, none⟩), .int .u64 150] 150)) (by rw [World.cell?_alloc_lt _ _ ⟨w.heap.size, 0, none⟩ (by simp; omega)]; simp)
  have st := xSetP t ⟨w.heap.size + 1 + 1 + 1, 0, none⟩ e old ((((w.alloc (.cells #[.pointer (some t)] 120)).alloc (.cells #[.pointer (some ⟨5, 120, none⟩), .pointer (some ⟨w.heap.size, 0, none⟩), .int .u64 150] 150)).alloc (.cells #[.pointer (some ⟨5, 120, none⟩), .pointer (some ⟨w.heap.size, 0, none⟩), .int .u64 150] 150)).alloc (.cells #[.pointer (some e)] 118))
    (by rw [World.cell?_alloc_at _ _ _ _ (by simp)]; rfl)
    (by rw [World.cell?_alloc_lt _ _ t (by simp; omega), World.cell?_alloc_lt _ _ t (by simp; omega), World.cell?_alloc_lt _ _ t (by simp; omega), World.cell?_alloc_lt _ _ t htl]; exact ht0)
    (by rw [World.frozen?_alloc_old _ _ t (by simp; omega), World.frozen?_alloc_old _ _ t (by simp; omega), World.frozen?_alloc_old _ _ t (by simp; omega), World.frozen?_alloc_old _ _ t (Nat.ne_of_lt htl)]; exact hf0)
  go_enter Tryz.func71, Tryz.ntmps71
  go_wp2
  refine wp_loop_rounds 1 ?_
  rw [rounds_succ]
  go_wp2
  go_ret
  exact ⟨rfl, rfl⟩
theorem as_box (e : Addr) (p : Nat) (x : Value) (w : World) (hg : w.cell? ⟨4, 0, none⟩ = some hErr) (hp : CellsAt w p 118 #[x]) :
    Calls Tryz.prog 71 #[.iface 118 (.pointer (some e)), .iface 120 (.pointer (some ⟨p, 0, none⟩))] w fun ev w' => ev = .returned (.bool true) ∧ w.grownBy w' (some p) ∧ CellsAt w' p 118 #[.pointer (some e)] := by
  refine (as_hit e ⟨p, 0, none⟩ x w hg (hp.cell 0) (hp.frozen 0)).mono ?_
  rintro ev w' ⟨he, rfl⟩
  refine ⟨he, gb_set (gb_alloc (gb_alloc (gb_alloc (gb_alloc (gb_refl w (some p)) _) _) _) _) 0 _, ?_⟩
  have h4 := (gb_alloc (gb_alloc (gb_alloc (gb_alloc (gb_refl w none) (.cells #[.pointer (some ⟨p, 0, none⟩)] 120)) (.cells #[.pointer (some ⟨5, 120, none⟩), .pointer (some ⟨w.heap.size, 0, none⟩), .int .u64 150] 150)) (.cells #[.pointer (some ⟨5, 120, none⟩), .pointer (some ⟨w.heap.size, 0, none⟩), .int .u64 150] 150)) (.cells #[.pointer (some e)] 118))
  exact (hp.grown h4 (by simp)).set_ 0 (.pointer (some e))
end Go.Proofs.YteopplldbcgjjaaGreatDoor.Mx
namespace Go.Proofs.YteopplldbcgjjaaGreatDoor.Mx
open Go.RowKit Go.Extern.Stop Go.Stop Go.Extern
set_option linter.unusedVariables false
theorem xIsTypeOf (v : Value) (w : World) : (Extern.ReflectliteType.typeOf #[.iface 212 v]).run Tryz.prog w = .ok (.iface 178 (.agg #[.pointer (some ⟨5, 212, none⟩)])) w := by kernel_rfl
theorem xIsComparable (w : World) : ((Extern.ReflectliteType.method fun t => do Rtype.noPackHeld "Comparable" t; (fun a => Value.bool a.comparable) <$> typeInfo t) #[.agg #[.pointer (some ⟨5, 212, none⟩)]]).run Tryz.prog w = .ok (.bool true) w := by kernel_rfl
theorem xIsMethodComparable (v : Value) (w : World) : (Go.method 346 178 v "Comparable").run Tryz.prog w = .ok (187, v) w := by kernel_rfl
theorem xIsComp : (Tryz.prog.info? 212).map (·.comparable) = some true := by kernel_rfl
theorem xIsSize : (Tryz.prog.info? 234).map (·.size) = some 1 := by kernel_rfl
theorem xNoIsE (v : Value) (xT : TypeId) (w : World) : (Instr.typeAssert (.iface 212 v) xT 190 true).run Tryz.prog w = .ok (.tuple #[.nilIface, .bool false]) w := run_typeAssert_lacksB Tryz.underlying190 (by kernel_rfl) (by kernel_rfl) v xT w
theorem xNoUnwrapE (v : Value) (xT : TypeId) (w : World) : (Instr.typeAssert (.iface 212 v) xT 185 true).run Tryz.prog w = .ok (.tuple #[.nilIface, .bool false]) w := run_typeAssert_lacksB Tryz.underlying185 (by kernel_rfl) (by kernel_rfl) v xT w
theorem xNoUnwrapsE (v : Value) (xT : TypeId) (w : World) : (Instr.typeAssert (.iface 212 v) xT 187 true).run Tryz.prog w = .ok (.tuple #[.nilIface, .bool false]) w := run_typeAssert_lacksB Tryz.underlying187 (by kernel_rfl) (by kernel_rfl) v xT w
theorem xNoIsR (v : Value) (xT : TypeId) (w : World) : (Instr.typeAssert (.iface 118 v) xT 190 true).run Tryz.prog w = .ok (.tuple #[.nilIface, .bool false]) w := run_typeAssert_lacksB Tryz.underlying190 (by kernel_rfl) (by kernel_rfl) v xT w
theorem xHasUnwrapR (v : Value) (xT : TypeId) (w : World) : (Instr.typeAssert (.iface 118 v) xT 185 true).run Tryz.prog w = .ok (.tuple #[.iface 118 v, .bool true]) w := run_typeAssert_hasB Tryz.underlying185 (by kernel_rfl) v xT w
theorem xMethodUnwrap (v : Value) (w : World) : (Go.method 346 118 v "Unwrap").run Tryz.prog w = .ok (181, v) w := by kernel_rfl
set_option maxHeartbeats 4000000 in
theorem is_same (pb : Nat) (b : Addr) (w : World) (h1 : w.cell? ⟨pb, 0, none⟩ = some (.iface 212 (.pointer (some b)))) :
    Calls Tryz.prog 72 #[.iface 118 (.pointer (some ⟨pb, 0, none⟩)), .iface 212 (.pointer (some b))] w fun e w' => e = .returned (.bool true) ∧ w = w' := by
  obtain ⟨i, hi, hcmp⟩ := Option.map_eq_some_iff.1 xIsComp
  obtain ⟨j, hj, hjs⟩ := Option.map_eq_some_iff.1 xIsSize
  have h8 := @run_callFunc_extern Tryz.prog 111 _ Extern.ReflectliteType.typeOf Tryz.func111 (by kernel_rfl) (by kernel_rfl) (by kernel_rfl) (by kernel_rfl)
  have h32 := @run_callFunc_extern Tryz.prog 187 _ (Extern.ReflectliteType.method fun t => do Rtype.noPackHeld "Comparable" t; pure (.bool (← typeInfo t).comparable)) Tryz.func187 (by kernel_rfl) (by kernel_rfl) (by kernel_rfl) (by kernel_rfl)
  have tT := xIsTypeOf
  have cT := xIsComparable
  have mR := xIsMethodComparable
  have nW := xNoIsR
  have uW := xHasUnwrapR
  have mU := xMethodUnwrap
  have heq := run_eql_iface_ptr_same (P := Tryz.prog) w b Tryz.underlying69 Tryz.underlying212 hi hcmp hj
  have hty := run_eql_iface_types (P := Tryz.prog) 118 212 (.pointer (some ⟨pb, 0, none⟩)) (.pointer (some b)) Tryz.underlying69 (by decide) w
  go_enter Tryz.func72, Tryz.ntmps72
  go_wp2
  refine wp_loop_rounds 2 ?_
  rw [rounds_succ]
  go_wp2
  rw [rounds_succ]
  go_wp2
  go_ret
  exact ⟨rfl, rfl⟩
set_option maxHeartbeats 4000000 in
theorem is_other (pb : Nat) (b a : Addr) (ca cb : Array Value) (ta tb : TypeId) (w : World) (h1 : w.cell? ⟨pb, 0, none⟩ = some (.iface 212 (.pointer (some a)))) (hne : a ≠ b) (ha : w.heap[a.block]? = some (.cells ca ta (0, 0))) (hb : w.heap[b.block]? = some (.cells cb tb (0, 0))) :
    Calls Tryz.prog 72 #[.iface 118 (.pointer (some ⟨pb, 0, none⟩)), .iface 212 (.pointer (some b))] w fun e w' => e = .returned (.bool false) ∧ w = w' := by
  obtain ⟨i, hi, hcmp⟩ := Option.map_eq_some_iff.1 xIsComp
  obtain ⟨j, hj, hjs⟩ := Option.map_eq_some_iff.1 xIsSize
  have h8 := @run_callFunc_extern Tryz.prog 111 _ Extern.ReflectliteType.typeOf Tryz.func111 (by kernel_rfl) (by kernel_rfl) (by kernel_rfl) (by kernel_rfl)
  have h32 := @run_callFunc_extern Tryz.prog 187 _ (Extern.ReflectliteType.method fun t => do Rtype.noPackHeld "Comparable" t; pure (.bool (← typeInfo t).comparable)) Tryz.func187 (by kernel_rfl) (by kernel_rfl) (by kernel_rfl) (by kernel_rfl)
  have tT := xIsTypeOf
  have cT := xIsComparable
  have mR := xIsMethodComparable
  have nE := xNoIsE
  have uE := xNoUnwrapE
  have vE := xNoUnwrapsE
  have nW := xNoIsR
  have uW := xHasUnwrapR
  have mU := xMethodUnwrap
  have heq := run_eql_iface_ptr_other (P := Tryz.prog) w Tryz.underlying69 Tryz.underlying212 hi hcmp hj (by rw [hjs]; decide) hne ha hb
  have hty := run_eql_iface_types (P := Tryz.prog) 118 212 (.pointer (some ⟨pb, 0, none⟩)) (.pointer (some b)) Tryz.underlying69 (by decide) w
  go_enter Tryz.func72, Tryz.ntmps72
  go_wp2
  refine wp_loop_rounds 2 ?_
  rw [rounds_succ]
  go_wp2
  rw [rounds_succ]
  go_wp2
  go_ret
  exact ⟨rfl, rfl⟩
end Go.Proofs.YteopplldbcgjjaaGreatDoor.Mx
namespace Go.Proofs.YteopplldbcgjjaaGreatDoor.Mx
set_option linter.unusedVariables false
def upTo (l : List Int) (k : Nat) : Int := (l.take k).foldl (· + ·) 0
theorem upTo_zero (l : List Int) : upTo l 0 = 0 := by simp [upTo]
theorem upTo_succ (l : List Int) {k : Nat} (h : k < l.length) : upTo l (k + 1) = upTo l k + l.getD k 0 := by
  unfold upTo
  rw [List.take_succ_eq_append_getElem h, List.foldl_append, List.getD_eq_getElem?_getD, List.getElem?_eq_getElem h]
  rfl
def CountsOk (l : List Int) : Prop := ∀ i, i < l.length → 1 ≤ l.getD i 0 ∧ l.getD i 0 ≤ 8
def planOk (key : Int) (l : List Int) : Prop := (1 ≤ key ∧ key ≤ 1000000) ∧ (1 ≤ l.length ∧ l.length ≤ 4) ∧ CountsOk l ∧ upTo l l.length ≤ 24
theorem upTo_mono {l : List Int} (h : CountsOk l) {i j : Nat} (hij : i ≤ j) (hj : j ≤ l.length) : upTo l i + ((j - i : Nat) : Int) ≤ upTo l j := by
  induction j with
  | zero => obtain rfl : i = 0 := by omega
            simp
  | succ j ih =>
    rcases Nat.lt_or_ge j i with hlt | hge
    · obtain rfl : i = j + 1 := by omega
      simp
    · have h1 := ih hge (by omega)
      have h2 := (h j (by omega)).1
      rw [upTo_succ l (by omega)]
      omega
theorem upTo_bd {l : List Int} (h : CountsOk l) {k : Nat} (hk : k ≤ l.length) : 0 ≤ upTo l k ∧ upTo l k ≤ 8 * k := by
  induction k with
  | zero => rw [upTo_zero]; omega
  | succ k ih =>
    have h1 := ih (by omega)
    have h2 := h k (by omega)
    rw [upTo_succ l (by omega)]
    omega
open Classical in
noncomputable def firstOf (key : Int) (l : List Int) (r : Int) : Int := if planOk key l ∧ 0 ≤ r ∧ r < l.length then upTo l r.toNat else -1
def IsRegion (l : List Int) (at_ r : Int) : Prop := (∃ i : Nat, i < l.length ∧ r = i ∧ upTo l i ≤ at_ ∧ at_ < upTo l (i + 1)) ∨ (r = -1 ∧ upTo l l.length ≤ at_)
theorem IsRegion.one {l : List Int} (h : CountsOk l) {at_ r r' : Int} (h1 : IsRegion l at_ r) (h2 : IsRegion l at_ r') : r = r' := by
  have lem : ∀ i j : Nat, i < l.length → j < l.length → upTo l i ≤ at_ → at_ < upTo l (j + 1) → i ≤ j := by
    intro i j hi hj a b
    refine Nat.le_of_not_lt fun hlt => ?_
    have := upTo_mono h (show j + 1 ≤ i by omega) (by omega)
    omega
  rcases h1 with ⟨i, hi, rfl, a, b⟩ | ⟨rfl, a⟩
  · rcases h2 with ⟨j, hj, rfl, c, d⟩ | ⟨rfl, c⟩
    · have := lem i j hi hj a d
      have := lem j i hj hi c b
      omega
    · have := upTo_mono h (show i + 1 ≤ l.length by omega) (Nat.le_refl _)
      omega
  · rcases h2 with ⟨j, hj, rfl, c, d⟩ | ⟨rfl, c⟩
    · have := upTo_mono h (show j + 1 ≤ l.length by omega) (Nat.le_refl _)
      omega
    · rfl
def regionFrom (l : List Int) (at_ : Int) : Nat → Nat → Int
  | _, 0 => -1
  | i, n + 1 => if at_ < upTo l (i + 1) then i else regionFrom l at_ (i + 1) n
theorem regionFrom_is {l : List Int} {at_ : Int} : ∀ (n i : Nat), i + n = l.length → upTo l i ≤ at_ → IsRegion l at_ (regionFrom l at_ i n) := by
  intro n
  induction n with
  | zero => intro i hi h; obtain rfl : i = l.length := by omega
            exact .inr ⟨rfl, h⟩
  | succ n ih =>
    intro i hi h
    unfold regionFrom
    by_cases hlt : at_ < upTo l (i + 1)
    · rw [if_pos hlt]; exact .inl ⟨i, by omega, rfl, h, hlt⟩
    · rw [if_neg hlt]; exact ih (i + 1) (by omega) (by omega)
open Classical in
noncomputable def regionOf (key : Int) (l : List Int) (at_ : Int) : Int := if planOk key l ∧ 0 ≤ at_ then regionFrom l at_ 0 l.length else -1
theorem regionOf_yes {key : Int} {l : List Int} {at_ r : Int} (h : planOk key l) (h0 : 0 ≤ at_) (hr : IsRegion l at_ r) : regionOf key l at_ = r := by
  unfold regionOf
  rw [if_pos ⟨h, h0⟩]
  exact (regionFrom_is l.length 0 (by omega) (by rw [upTo_zero]; exact h0)).one h.2.2.1 hr
theorem regionOf_no {key : Int} {l : List Int} {at_ : Int} (h : ¬ (planOk key l ∧ 0 ≤ at_)) : regionOf key l at_ = -1 := by unfold regionOf; rw [if_neg h]
theorem firstOf_yes {key : Int} {l : List Int} {r : Nat} (h : planOk key l) (hr : r < l.length) : firstOf key l r = upTo l r := by
  unfold firstOf; rw [if_pos ⟨h, by omega, by omega⟩]; simp
theorem firstOf_no {key : Int} {l : List Int} {r : Int} (h : ¬ (planOk key l ∧ 0 ≤ r ∧ r < l.length)) : firstOf key l r = -1 := by unfold firstOf; rw [if_neg h]
end Go.Proofs.YteopplldbcgjjaaGreatDoor.Mx
namespace Go.Proofs.YteopplldbcgjjaaGreatDoor.Mx
open Go.ChangeShapes Go.WideShapes Go.ChangeAt Go.RowKit
set_option linter.unusedVariables false
def addOf (a b : Int) : Int := if (0 ≤ a ∧ a ≤ 4611686018427387903) ∧ 0 ≤ b ∧ b ≤ 4611686018427387903 then (a + b) % 4611686018427387904 else -1
theorem isSum_yes (s : Int) (w : World) (h0 : 0 ≤ s) (h1 : s ≤ 4611686018427387903) :
    Calls Tryz.prog 123 #[.int .i64 s] w fun e w' => e = .returned (.bool true) ∧ w = w' := by
  have h2 : s < 4611686018427387904 := by omega
  go_enter Tryz.func123, Tryz.ntmps123
  go_wp2
  go_ret
  exact ⟨rfl, rfl⟩
theorem isSum_no (s : Int) (w : World) (h : s < 0 ∨ 4611686018427387903 < s) :
    Calls Tryz.prog 123 #[.int .i64 s] w fun e w' => e = .returned (.bool false) ∧ w = w' := by
  by_cases h0 : 0 ≤ s
  · have h2 : ¬ s < 4611686018427387904 := by omega
    clear h
    go_enter Tryz.func123, Tryz.ntmps123
    go_wp2
    go_ret
    exact ⟨rfl, rfl⟩
  · clear h
    go_enter Tryz.func123, Tryz.ntmps123
    go_wp2
    go_ret
    exact ⟨rfl, rfl⟩
theorem l1In_yes (s lo hi : Int) (w : World) (h0 : lo ≤ s) (h1 : s ≤ hi) :
    Calls Tryz.prog 76 #[.int .i64 s, .int .i64 lo, .int .i64 hi] w fun e w' => e = .returned (.bool true) ∧ w = w' := by
  go_enter Tryz.func76, Tryz.ntmps76
  go_wp2
  go_ret
  exact ⟨rfl, rfl⟩
theorem l1In_no (s lo hi : Int) (w : World) (h : s < lo ∨ hi < s) :
    Calls Tryz.prog 76 #[.int .i64 s, .int .i64 lo, .int .i64 hi] w fun e w' => e = .returned (.bool false) ∧ w = w' := by
  by_cases h0 : lo ≤ s
  · have h2 : ¬ s ≤ hi := by omega
    clear h
    go_enter Tryz.func76, Tryz.ntmps76
    go_wp2
    go_ret
    exact ⟨rfl, rfl⟩
  · clear h
    go_enter Tryz.func76, Tryz.ntmps76
    go_wp2
    go_ret
    exact ⟨rfl, rfl⟩
theorem add_calls (a b : Int) (w : World) :
    Calls Tryz.prog 113 #[.int .i64 a, .int .i64 b] w fun e w' => e = .returned (.int .i64 (addOf a b)) ∧ w = w' := by
  by_cases ha : 0 ≤ a ∧ a ≤ 4611686018427387903
  · obtain ⟨ha0, ha1⟩ := ha
    by_cases hb : 0 ≤ b ∧ b ≤ 4611686018427387903
    · obtain ⟨hb0, hb1⟩ := hb
      have hf : addOf a b = (a + b) % 4611686018427387904 := by unfold addOf; rw [if_pos ⟨⟨ha0, ha1⟩, hb0, hb1⟩]
      rw [hf]; clear hf
      go_enter Tryz.func113, Tryz.ntmps113
      go_wp2_with (go_at_call 123; refine (isSum_yes _ _ (by omega) (by omega)).mono ?_; rintro e w' ⟨rfl, rfl⟩)
      go_ret
      exact ⟨rfl, rfl⟩
    · have hb' : b < 0 ∨ 4611686018427387903 < b := by omega
      have hf : addOf a b = -1 := by unfold addOf; rw [if_neg (by omega)]
      rw [hf]; clear hf hb
      go_enter Tryz.func113, Tryz.ntmps113
      go_wp2_with fail
      refine (isSum_yes _ _ ha0 ha1).mono ?_; rintro e w' ⟨rfl, rfl⟩
      go_wp2_with fail
      refine (isSum_no _ _ hb').mono ?_; rintro e w' ⟨rfl, rfl⟩
      go_wp2
      go_ret
      exact ⟨rfl, rfl⟩
  · have ha' : a < 0 ∨ 4611686018427387903 < a := by omega
    have hf : addOf a b = -1 := by unfold addOf; rw [if_neg (by omega)]
    rw [hf]; clear hf ha
    go_enter Tryz.func113, Tryz.ntmps113
    go_wp2_with (go_at_call 123; refine (isSum_no _ _ ha').mono ?_; rintro e w' ⟨rfl, rfl⟩)
    go_ret
    exact ⟨rfl, rfl⟩
theorem specAdd_calls (a b : Int) (w : World) :
    Calls Tryz.prog 58 #[.int .i64 a, .int .i64 b] w fun e w' => e = .returned (.int .i64 (addOf a b)) ∧ w = w' := by
  by_cases ha : 0 ≤ a ∧ a ≤ 4611686018427387903
  · obtain ⟨ha0, ha1⟩ := ha
    by_cases hb : 0 ≤ b ∧ b ≤ 4611686018427387903
    · obtain ⟨hb0, hb1⟩ := hb
      have hf : addOf a b = (a + b) % 4611686018427387904 := by unfold addOf; rw [if_pos ⟨⟨ha0, ha1⟩, hb0, hb1⟩]
      rw [hf]; clear hf
      go_enter Tryz.func58, Tryz.ntmps58
      go_wp2_with (go_at_call 76; refine (l1In_yes _ _ _ _ (by omega) (by omega)).mono ?_; rintro e w' ⟨rfl, rfl⟩)
      go_ret
      exact ⟨rfl, rfl⟩
    · have hb' : b < 0 ∨ 4611686018427387903 < b := by omega
      have hf : addOf a b = -1 := by unfold addOf; rw [if_neg (by omega)]
      rw [hf]; clear hf hb
      go_enter Tryz.func58, Tryz.ntmps58
      go_wp2_with fail
      refine (l1In_yes _ _ _ _ ha0 ha1).mono ?_; rintro e w' ⟨rfl, rfl⟩
      go_wp2_with fail
      refine (l1In_no _ _ _ _ hb').mono ?_; rintro e w' ⟨rfl, rfl⟩
      go_wp2
      go_ret
      exact ⟨rfl, rfl⟩
  · have ha' : a < 0 ∨ 4611686018427387903 < a := by omega
    have hf : addOf a b = -1 := by unfold addOf; rw [if_neg (by omega)]
    rw [hf]; clear hf ha
    go_enter Tryz.func58, Tryz.ntmps58
    go_wp2_with (go_at_call 76; refine (l1In_no _ _ _ _ ha').mono ?_; rintro e w' ⟨rfl, rfl⟩)
    go_ret
    exact ⟨rfl, rfl⟩
end Go.Proofs.YteopplldbcgjjaaGreatDoor.Mx
namespace Go.Proofs.YteopplldbcgjjaaGreatDoor.Mx
open Go.ChangeShapes Go.WideShapes Go.ChangeAt Go.RowKit
set_option linter.unusedVariables false
theorem isKey_yes (s : Int) (w : World) (h0 : 1 ≤ s) (h1 : s ≤ 1000000) :
    Calls Tryz.prog 124 #[.int .i64 s] w fun e w' => e = .returned (.bool true) ∧ w = w' := by
  go_enter Tryz.func124, Tryz.ntmps124
  go_wp2
  go_ret
  exact ⟨rfl, rfl⟩
theorem isKey_no (s : Int) (w : World) (h : s < 1 ∨ 1000000 < s) :
    Calls Tryz.prog 124 #[.int .i64 s] w fun e w' => e = .returned (.bool false) ∧ w = w' := by
  by_cases h0 : 1 ≤ s
  · have h2 : ¬ s ≤ 1000000 := by omega
    clear h
    go_enter Tryz.func124, Tryz.ntmps124
    go_wp2
    go_ret
    exact ⟨rfl, rfl⟩
  · clear h
    go_enter Tryz.func124, Tryz.ntmps124
    go_wp2
    go_ret
    exact ⟨rfl, rfl⟩
theorem anyNegative_no (A : Option Addr) (l : List Int) (cap B : Nat) (w : World) (hn : l.length ≤ maxLen) (hA : Ints w .i64 B A l) (hf : Fine l) :
    Calls Tryz.prog 145 #[.slice A l.length cap] w fun e w' => e = .returned (.bool false) ∧ w = w' := by
  unfold maxLen at hn
  go_enter Tryz.func145, Tryz.ntmps145
  go_wp2
  go_loop [7] (fun i => ∃ k : Nat, k ≤ l.length ∧ i = .int .i64 k) (fun i => l.length - (intOf i).toNat)
  case atStart => exact ⟨0, Nat.zero_le _, rfl⟩
  case round =>
    obtain ⟨k, hk, rfl⟩ := hrel
    by_cases hlt : k < l.length
    · obtain ⟨b, off, rfl, hb, hc⟩ := hA k hlt
      have hv0 := hf k hlt
      generalize l.getD k 0 = v at hc hv0
      clear hA hf
      go_wp2
      go_round
      case rel => exact ⟨k + 1, by omega, by go_num⟩
      case measure => simp [intOf]; omega
    · clear hA hf
      go_wp2
      go_ret
      exact ⟨rfl, rfl⟩
theorem anyNegative_yes (A : Option Addr) (l : List Int) (cap B : Nat) (w : World) (hn : l.length ≤ maxLen) (hA : Ints w .i64 B A l) (hf : ∃ i, i < l.length ∧ l.getD i 0 < 0) :
    Calls Tryz.prog 145 #[.slice A l.length cap] w fun e w' => e = .returned (.bool true) ∧ w = w' := by
  unfold maxLen at hn
  obtain ⟨j, hj, hjv⟩ := hf
  go_enter Tryz.func145, Tryz.ntmps145
  go_wp2
  go_loop [7] (fun i => ∃ k : Nat, k ≤ j ∧ i = .int .i64 k) (fun i => l.length - (intOf i).toNat)
  case atStart => exact ⟨0, Nat.zero_le _, rfl⟩
  case round =>
    obtain ⟨k, hk, rfl⟩ := hrel
    have hlt : k < l.length := by omega
    obtain ⟨b, off, rfl, hb, hc⟩ := hA k hlt
    clear hA
    by_cases hkj : k = j
    · subst hkj
      generalize l.getD k 0 = v at hc hjv
      go_wp2
      go_ret
      exact ⟨rfl, rfl⟩
    · have hkj' : k < j := by omega
      clear hkj hjv
      generalize l.getD k 0 = v at hc
      by_cases hv : v < 0
      · go_wp2
        go_ret
        exact ⟨rfl, rfl⟩
      · go_wp2
        go_round
        case rel => exact ⟨k + 1, by omega, by go_num⟩
        case measure => simp [intOf]; omega
end Go.Proofs.YteopplldbcgjjaaGreatDoor.Mx

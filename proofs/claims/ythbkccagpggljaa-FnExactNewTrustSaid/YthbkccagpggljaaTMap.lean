/- A MAP FROM TRIPLES TO int64 THAT THE CALL MAKES, IN PLAIN WORDS: 'TMap w b n f': block b is a map of at most n entries; f tells what stands under a triple, if anything does. -/
import Derived.Test.YthbkccagpggljaaTripA
import Derived.Maps.OwnSet
import Derived.DeepKeys4
import Derived.MapViews
namespace Go.Proofs.Ythbkccagpggljaa.Mx
open Go.ChangeShapes Go.WideShapes Go.ChangeAt Go.RowKit Go.Maps
set_option linter.unusedVariables false

theorem laid : laidOutB Try.prog = true := by kernel_rfl
theorem triRow : (46 : TypeId) < Try.prog.types.size := of_decide_eq_true (by kernel_rfl)
theorem triKeyAt : Try.prog.keyTypeAt 3 46 = true := by kernel_rfl
set_option maxRecDepth 20000 in
theorem triWide : (match Try.prog.underlying 46 with | some (.array _ _) | some (.struct _) => true | _ => false) = true := by kernel_rfl
set_option maxRecDepth 20000 in
theorem triLaw : Keyed Try.prog 46 := Keyed.of_law (deep_law_laid laid (m := 3) (by omega) triRow triKeyAt triWide)
theorem triType : Try.prog.keyType 46 = true := by kernel_rfl
theorem triCells : Try.prog.cellsOf 46 = 3 := by kernel_rfl
theorem i64Cells : Try.prog.cellsOf 2 = 1 := by kernel_rfl
theorem i64Zero (w : World) : (zeroValue 2).run Try.prog w = .ok (.int .i64 0) w := by kernel_rfl
/-- What a triple reads as, as a key. -/
def tkey (a t v : Int) : Lit := .string (keyBytes [.int .i64 a, .int .i64 t, .int .i64 v])
theorem tkey_of {a t v : Int} (ha : I64 a) (ht : I64 t) (hv : I64 v) : keyOf Try.prog 46 (.agg #[.int .i64 a, .int .i64 t, .int .i64 v]) = some (tkey a t v) := by
  obtain ⟨m, hm⟩ : ∃ m, m + 1 = Try.prog.types.size := ⟨Try.prog.types.size - 1, Nat.sub_add_cancel (Nat.lt_of_le_of_lt (Nat.zero_le _) triRow)⟩
  have w1 : (Lit.int .i64 a).wf = true := WalkArith.wf_i64 ⟨ha.1, ha.2⟩
  have w2 : (Lit.int .i64 t).wf = true := WalkArith.wf_i64 ⟨ht.1, ht.2⟩
  have w3 : (Lit.int .i64 v).wf = true := WalkArith.wf_i64 ⟨hv.1, hv.2⟩
  unfold keyOf
  simp only [Try.underlying46]
  rw [triType, ← hm]
  clear hm
  simp [triCells, i64Cells, Value.formed, Try.underlying46, Value.cells, Program.keyLits, Try.underlying2, w1, w2, w3, tkey]
theorem tkey_inj {a t v a' t' v' : Int} (ha : I64 a) (ht : I64 t) (hv : I64 v) (ha' : I64 a') (ht' : I64 t') (hv' : I64 v') (h : tkey a t v = tkey a' t' v') : a = a' ∧ t = t' ∧ v = v' := by
  have := triLaw.inj (tkey_of ha ht hv) (h ▸ tkey_of ha' ht' hv')
  simpa using this
theorem tkey_lit (a t v : Int) : WideAt.IsKeyLit (tkey a t v) := trivial

/-- WHAT A MAP HOLDS: under a triple a number, or nothing. -/
abbrev Held := Int → Int → Int → Option Int
def Held.none : Held := fun _ _ _ => Option.none
def Held.put (f : Held) (a t v d : Int) : Held := fun x y z => if x = a ∧ y = t ∧ z = v then some d else f x y z
def Held.del (f : Held) (a t v : Int) : Held := fun x y z => if x = a ∧ y = t ∧ z = v then Option.none else f x y z

/-- Block b is a map of at most n entries that holds f. -/
def TMap (w : World) (b n : Nat) (f : Held) : Prop :=
  ∃ D : DataW Unit, w.ownsMap Try.prog 46 (plainElem Try.prog 2) b n D ∧
    ∀ a t v, I64 a → I64 t → I64 v → Maps.has D (tkey a t v) = (f a t v).isSome ∧ D.atKey (tkey a t v) (.lit (.int .i64 0)) = .lit (.int .i64 ((f a t v).getD 0))

theorem TMap.lt {w : World} {b n : Nat} {f : Held} (h : TMap w b n f) : b < w.heap.size := let ⟨_, h, _⟩ := h; h.lt
theorem TMap.mono {w : World} {b n n' : Nat} {f : Held} (h : TMap w b n f) (hn : n ≤ n') : TMap w b n' f := let ⟨D, h, k⟩ := h; ⟨D, h.mono hn, k⟩
theorem TMap.kept {w w' : World} {b n : Nat} {f : Held} {row : Option Nat} (h : TMap w b n f) (hg : w.grownBy w' row) (hne : some b ≠ row) : TMap w' b n f := let ⟨D, h, k⟩ := h; ⟨D, h.kept hg hne, k⟩
theorem TMap.below {w w' : World} {b n B : Nat} {f : Held} (h : TMap w b n f) (hb : Below B w w') (hB : b < B) : TMap w' b n f := by
  obtain ⟨D, ⟨es, clock, hh, r⟩, k⟩ := h
  exact ⟨D, ⟨es, clock, (hb.block b hB).trans hh, r⟩, k⟩
theorem TMap.alloc {w : World} {b n : Nat} {f : Held} (h : TMap w b n f) (o : Obj) : TMap (w.alloc o) b n f := let ⟨D, h, k⟩ := h; ⟨D, h.alloc o, k⟩
theorem TMap.drewN {w : World} {b n : Nat} {f : Held} (h : TMap w b n f) (m : Nat) : TMap (w.drewN m) b n f := h
theorem TMap.drew {w : World} {b n : Nat} {f : Held} (h : TMap w b n f) : TMap w.drew b n f := h
theorem TMap.made (w : World) : TMap (w.alloc (.map #[] 0)) w.heap.size 0 Held.none :=
  ⟨.map [], World.ownsMap_made _ _ _ _, fun a t v _ _ _ => ⟨rfl, rfl⟩⟩

theorem TMap.put {w : World} {b n : Nat} {f : Held} (hown : TMap w b n f) (hn : n < maxLen) {i j k d : Int} (hi : I64 i) (hj : I64 j) (hk : I64 k) (hd : I64 d) :
    ∃ w', (Instr.mapUpdate 82 (.map (some b)) (.agg #[.int .i64 i, .int .i64 j, .int .i64 k]) (.int .i64 d)).run Try.prog w = .ok () w' ∧ TMap w' b (n + 1) (f.put i j k d) ∧ w.grownBy w' (some b) := by
  obtain ⟨D, h, hD⟩ := hown
  obtain ⟨w', hr, h', hg'⟩ := h.update triLaw Try.underlying82 hn (tkey_of hi hj hk) (plainElem_int (H := Unit) Try.underlying2 (WalkArith.wf_i64 ⟨hd.1, hd.2⟩))
  refine ⟨w', hr, ⟨_, h', fun a t v ha ht hv => ?_⟩, hg'⟩
  by_cases e : a = i ∧ t = j ∧ v = k
  · obtain ⟨rfl, rfl, rfl⟩ := e
    rw [has_put_same h.isMap (tkey_lit _ _ _), atKey_put_same h.isMap (tkey_lit _ _ _)]
    simp [Held.put]
  · have hne : tkey a t v ≠ tkey i j k := fun e' => e (tkey_inj ha ht hv hi hj hk e')
    rw [has_put_other hne, atKey_put_other hne]
    simp only [Held.put, if_neg e]
    exact hD a t v ha ht hv
theorem TMap.look {w : World} {b n : Nat} {f : Held} (hown : TMap w b n f) {i j k : Int} (hi : I64 i) (hj : I64 j) (hk : I64 k) :
    (Instr.lookup 82 (.map (some b)) (.agg #[.int .i64 i, .int .i64 j, .int .i64 k]) false).run Try.prog w = .ok (.int .i64 ((f i j k).getD 0)) w := by
  obtain ⟨D, h, hD⟩ := hown
  obtain ⟨c, hr, hc, _⟩ := h.lookup_int triLaw Try.underlying82 Try.underlying2 (i64Zero _) (tkey_of hi hj hk)
  rw [(hD i j k hi hj hk).2] at hc
  simp only [DataW.lit.injEq, Lit.int.injEq, true_and] at hc
  rw [hc]; exact hr

section
variable (w : World) {ops : Array Oper} {rest : List Oper} {o : Oper} {a : Act} {Q : Exit → Act → World → Prop}
/-- 'm[k]' -/
theorem tm_look (hg : o.guard = none) (m x : Operand) (hop : o.op = Op.lookup 82 m x false) (b n : Nat) (f : Held) (hm : a.eval m = .map (some b)) (hown : TMap w b n f)
    (i j k : Int) (hx : a.eval x = .agg #[.int .i64 i, .int .i64 j, .int .i64 k]) (hi : I64 i) (hj : I64 j) (hk : I64 k)
    (hK : wpList Try.prog ops Q rest (a.put o.dst (.int .i64 ((f i j k).getD 0))) w) : wpList Try.prog ops Q (o :: rest) a w := by
  obtain ⟨D, h, hD⟩ := hown
  refine wpList_lookup_own_int _ hg m x 82 hop 46 2 .i64 triLaw Try.underlying82 Try.underlying2 (i64Zero _) b n D hm h _ _ hx (tkey_of hi hj hk) ?_
  intro c hc _
  rw [(hD i j k hi hj hk).2] at hc
  simp only [DataW.lit.injEq, Lit.int.injEq, true_and] at hc
  rw [← hc]; exact hK
/-- 'v, ok := m[k]' -/
theorem tm_look_ok (hg : o.guard = none) (m x : Operand) (hop : o.op = Op.lookup 82 m x true) (b n : Nat) (f : Held) (hm : a.eval m = .map (some b)) (hown : TMap w b n f)
    (i j k : Int) (hx : a.eval x = .agg #[.int .i64 i, .int .i64 j, .int .i64 k]) (hi : I64 i) (hj : I64 j) (hk : I64 k)
    (hK : wpList Try.prog ops Q rest (a.put o.dst (.tuple #[.int .i64 ((f i j k).getD 0), .bool (f i j k).isSome])) w) : wpList Try.prog ops Q (o :: rest) a w := by
  obtain ⟨D, h, hD⟩ := hown
  refine wpList_lookup_own_ok_int _ hg m x 82 hop 46 2 .i64 triLaw Try.underlying82 Try.underlying2 (i64Zero _) b n D hm h _ _ hx (tkey_of hi hj hk) ?_
  intro c hc _
  rw [(hD i j k hi hj hk).2] at hc
  simp only [DataW.lit.injEq, Lit.int.injEq, true_and] at hc
  rw [← hc, (hD i j k hi hj hk).1]; exact hK
/-- 'm[k] = d' -/
theorem tm_store (hg : o.guard = none) (m x v : Operand) (hop : o.op = Op.mapUpdate 82 m x v) (b n : Nat) (f : Held) (hm : a.eval m = .map (some b)) (hown : TMap w b n f) (hn : n < maxLen)
    (i j k d : Int) (hx : a.eval x = .agg #[.int .i64 i, .int .i64 j, .int .i64 k]) (hv : a.eval v = .int .i64 d) (hi : I64 i) (hj : I64 j) (hk : I64 k) (hd : I64 d)
    (hK : ∀ w', TMap w' b (n + 1) (f.put i j k d) → w.grownBy w' (some b) → wpList Try.prog ops Q rest (a.put o.dst undef) w') : wpList Try.prog ops Q (o :: rest) a w := by
  refine wpList_plain hg fun K' hK' => ?_
  obtain ⟨w', hrun, r1, r2⟩ := hown.put hn hi hj hk hd
  unfold Oper.wp
  simp [execOp, hop, hm, hx, hv, hrun, Result.andThen]
  exact hK' _ _ (hK w' r1 r2)
end
end Go.Proofs.Ythbkccagpggljaa.Mx

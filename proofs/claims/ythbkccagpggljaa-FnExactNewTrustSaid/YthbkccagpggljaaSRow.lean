/- SLICES OF STRUCTS, WHATEVER THE STRUCT: what a slice reads as; a row that is the call's own; append of a whole slice to a row. No function in sight. -/
import Derived.Test.YthbkccagpggljaaOwn
import Derived.Maps.AppendAt
import Derived.Deep.Upon
import Derived.Deep.AppendLies
import Derived.Great.BuildSlice
namespace Go.Proofs.Ythbkccagpggljaa.Mx
open Go.ChangeShapes Go.WideShapes Go.ChangeAt Go.RowKit
set_option linter.unusedVariables false

section
variable {α : Type} [Inhabited α] {enc : α → List Value} {n : Nat} {T : TypeId} {w w' : World} {B B' base base' : Nat} {A : Option Addr} {L M : List α} {v : Value}
/-- A slice at address A reads as L, below block B; a struct x lies in the n cells enc x. -/
def Sls (enc : α → List Value) (n : Nat) (w : World) (B : Nat) (A : Option Addr) (L : List α) : Prop :=
  ∀ i, i < L.length → ∃ b off, A = some ⟨b, off, none⟩ ∧ b < B ∧ ∀ j, j < n → w.cell? ⟨b, off + i * n + j, none⟩ = (enc (L.getD i default))[j]?
theorem Sls.below (h : Sls enc n w B A L) (hb : Below B' w w') (hB : B ≤ B') : Sls enc n w' B A L := by
  intro i hi
  obtain ⟨b, off, rfl, hlt, hc⟩ := h i hi
  exact ⟨b, off, rfl, hlt, fun j hj => (hb.cell (p := ⟨b, off + i * n + j, none⟩) (Nat.lt_of_lt_of_le hlt hB)).trans (hc j hj)⟩
theorem Sls.more (h : Sls enc n w B A L) (hB : B ≤ B') : Sls enc n w B' A L := by
  intro i hi
  obtain ⟨b, off, e, hlt, c⟩ := h i hi
  exact ⟨b, off, e, by omega, c⟩
theorem Sls.grow (h : Sls enc n w w.heap.size A L) (hb : Below w.heap.size w w') : Sls enc n w' w'.heap.size A L := (h.below hb (Nat.le_refl _)).more hb.size
theorem Sls.nil : Sls enc n w B A [] := fun i hi => by simp at hi
/-- The cells of a list of structs. -/
def flatS (enc : α → List Value) (L : List α) : List Value := L.flatMap enc
omit [Inhabited α] in
theorem flatS_snoc (x : α) : flatS enc (L ++ [x]) = flatS enc L ++ enc x := by simp [flatS]
omit [Inhabited α] in
theorem flatS_append : flatS enc (L ++ M) = flatS enc L ++ flatS enc M := by simp [flatS]
omit [Inhabited α] in
theorem flatS_length (hn : ∀ x, (enc x).length = n) : (flatS enc L).length = L.length * n := by
  induction L with
  | nil => simp [flatS]
  | cons x L ih =>
    have : flatS enc (x :: L) = enc x ++ flatS enc L := by simp [flatS]
    rw [this, List.length_append, hn, ih, List.length_cons, Nat.succ_mul]; omega
theorem flatS_get (hn : ∀ x, (enc x).length = n) (i j : Nat) (hi : i < L.length) (hj : j < n) : (flatS enc L)[i * n + j]? = (enc (L.getD i default))[j]? := by
  induction L generalizing i with
  | nil => simp at hi
  | cons x L ih =>
    have hc : flatS enc (x :: L) = enc x ++ flatS enc L := by simp [flatS]
    rw [hc]
    cases i with
    | zero => rw [List.getElem?_append_left (by rw [hn]; omega)]; simp
    | succ i =>
      rw [List.getElem?_append_right (by rw [hn, Nat.succ_mul]; omega), hn, show (i + 1) * n + j - n = i * n + j by rw [Nat.succ_mul]; omega, ih i (by simpa using hi)]
      simp
/-- The slice value v owns, among the blocks from 'base' on, the structs L. -/
def SRow (enc : α → List Value) (n : Nat) (T : TypeId) (w : World) (base : Nat) (v : Value) (L : List α) : Prop := w.ownsRow base T n v L.length (flatS enc L)
omit [Inhabited α] in
theorem SRow.kept {r : Option Nat} (h : SRow enc n T w base v L) (hg : w.grownBy w' r) (hb : v.ownBlock = none ∨ v.ownBlock ≠ r) : SRow enc n T w' base v L := World.ownsRow.kept h hg hb
omit [Inhabited α] in
theorem SRow.lt (h : SRow enc n T w base v L) {g : Nat} (hg : v.ownBlock = some g) : base ≤ g ∧ g < w.heap.size := World.ownsRow.lt h g hg
omit [Inhabited α] in
theorem SRow.grown {g : Nat} (h : SRow enc n T w base v L) (hg : w.grownBy w' (some g)) (hb : g < base) : SRow enc n T w' base v L := by
  refine h.kept hg ?_
  cases e : v.ownBlock with
  | none => exact .inl rfl
  | some k => exact .inr (by intro e2; injection e2 with e2; have := (h.lt e).1; omega)
omit [Inhabited α] in
theorem SRow.alloc (h : SRow enc n T w base v L) (o : Obj) : SRow enc n T (w.alloc o) base v L := World.ownsRow.alloc h o
omit [Inhabited α] in
theorem SRow.below (h : SRow enc n T w base v L) (hb : Below w.heap.size w w') : SRow enc n T w' base v L :=
  h.kept (below_gb hb none) (by cases e : v.ownBlock with | none => exact .inl rfl | some k => exact .inr (by intro e2; cases e2))
omit [Inhabited α] in
theorem SRow.made (w : World) (h : base ≤ w.heap.size) : SRow enc n T (w.alloc (.cells #[] T)) base (.slice (some ⟨w.heap.size, 0, none⟩) 0 0) ([] : List α) := World.ownsRow_made w #[] 0 h (by simp [maxLen]) (by simp)
omit [Inhabited α] in
theorem SRow.mono (h : SRow enc n T w base v L) (hb : base' ≤ base) : SRow enc n T w base' v L := by
  refine ⟨h.1, ?_⟩
  rcases h.2 with h0 | ⟨g, cap, cur, e, hg, r⟩
  · exact .inl h0
  · exact .inr ⟨g, cap, cur, e, Nat.le_trans hb hg, r⟩
theorem SRow.reads (hn : ∀ x, (enc x).length = n) (h : SRow enc n T w base v L) : ∃ A c, v = .slice A L.length c ∧ Sls enc n w w.heap.size A L ∧ L.length ≤ c := by
  rcases h.2 with ⟨rfl, h0⟩ | ⟨g, cap, cur, rfl, hb, hg, hnc, hcm, hcs, htake⟩
  · have : L = [] := List.length_eq_zero_iff.1 h0
    subst this
    exact ⟨none, 0, rfl, Sls.nil, Nat.le_refl _⟩
  · refine ⟨_, cap, rfl, fun i hi => ⟨g, 0, rfl, (Array.getElem?_eq_some_iff.1 hg).1, fun j hj => ?_⟩, hnc⟩
    have hlt : i * n + j < L.length * n := by
      have : (i + 1) * n ≤ L.length * n := Nat.mul_le_mul_right n hi
      rw [Nat.succ_mul] at this; omega
    rw [Nat.zero_add, World.ownsRow.cellAt h (i * n + j) hlt, flatS_get hn i j hi hj]
/-- The cells to be appended, out of what a slice reads as. -/
theorem Sls.news (hn : ∀ x, (enc x).length = n) (hp : 0 < n) (h : Sls enc n w B A L) : ∀ j u, (flatS enc L)[j]? = some u → ∃ ad, A = some ad ∧ w.cell? (ad.add j) = some u := by
  intro j u hu
  have hj : j < L.length * n := by have := (List.getElem?_eq_some_iff.1 hu).1; rwa [flatS_length hn] at this
  have hi : j / n < L.length := (Nat.div_lt_iff_lt_mul hp).2 hj
  obtain ⟨b, off, rfl, _, hc⟩ := h (j / n) hi
  refine ⟨_, rfl, ?_⟩
  have hm := Nat.mod_lt j hp
  have he : j / n * n + j % n = j := by rw [Nat.mul_comm]; exact Nat.div_add_mod j n
  rw [Addr.add_mid, show off + j = off + j / n * n + j % n by omega, hc _ hm, ← flatS_get hn _ _ hi hm, he, hu]
end

/-- APPEND OF A WHOLE SLICE (nil, empty or not) TO A ROW. -/
theorem run_append_row {P : Program} {w : World} {base : Nat} {t ty e : TypeId} {size bytes n : Nat} {z : Value} {v : Value} {xs : List Value} {A : Option Addr} {m c : Nat} {news : List Value}
    (ht : P.underlying t = some (.slice e)) (hi : (P.info? e).map (fun i => (i.zero, i.size, i.bytes)) = some (some z, size, bytes)) (hzs : z.cells.size = size) (hsz : 0 < size)
    (hown : w.ownsRow base e size v n xs) (hl : news.length = m * size) (hnews : ∀ j u, news[j]? = some u → ∃ ad, A = some ad ∧ w.cell? (ad.add j) = some u) (h1 : ∀ u ∈ news, u.oneCell' = true)
    (h63 : n + m ≤ maxLen) (hbytes : (n + m) * bytes ≤ 140737488355328) (hbase : base ≤ w.heap.size) :
    ∃ v' w', (Builtin.append_ #[t, t] ty #[v, .slice A m c]).run P w = .ok v' w' ∧ w'.ownsRow base e size v' (n + m) (xs ++ news) ∧ w.grownBy w' v.ownBlock ∧ (v'.ownBlock = v.ownBlock ∨ v'.ownBlock = some w.heap.size) := by
  obtain ⟨i, hi0, hi1⟩ := Option.map_eq_some_iff.1 hi
  simp only [Prod.mk.injEq] at hi1
  obtain ⟨hz, hsize, hby⟩ := hi1
  cases A with
  | some ad =>
    obtain ⟨v', w', hr, h2, h3, _, h5⟩ := run_append_own_at (P := P) w base t ty e i z size bytes ht hi0 hz hsize hby hzs hsz v n xs hown ad m c news hl (fun j u hu => by obtain ⟨ad', e, hc⟩ := hnews j u hu; injection e with e; rw [e]; exact hc) h1 h63 hbytes hbase
    exact ⟨v', w', hr, h2, h3, h5⟩
  | none =>
    have hnil : news = [] := by
      cases news with
      | nil => rfl
      | cons u r => obtain ⟨ad, e, _⟩ := hnews 0 u rfl; cases e
    subst hnil
    have hm0 : m = 0 := by
      rcases Nat.eq_zero_or_pos m with h | h
      · exact h
      · have := Nat.mul_pos h hsz; simp at hl; omega
    subst hm0
    obtain ⟨bse, cp, hv, hle⟩ : ∃ bse cp, v = .slice bse n cp ∧ n ≤ cp := by
      rcases hown.2 with ⟨rfl, rfl⟩ | ⟨g, cap, cur, rfl, _, _, hnc, _⟩
      · exact ⟨none, 0, rfl, Nat.le_refl _⟩
      · exact ⟨_, cap, rfl, hnc⟩
    refine ⟨v, w, ?_, by simpa using hown, gb_refl _ _, .inl rfl⟩
    rw [hv]
    exact run_append_nothing (P := P) w t t ty e i ht hi0 bse n cp hle _ (Src.ofNil w ht c)
/-- At an operation. -/
theorem wp_append_row {P : Program} {w : World} {o : Oper} {a : Act} {K : Act → World → Prop} {Q : Exit → Act → World → Prop} (s x : Operand) (t : TypeId)
    (ho : o.op = .call { callee := .builtin .append, args := #[s, x], argTypes := #[t, t] }) (base : Nat) (e : TypeId) (size bytes n : Nat) (z v : Value) (xs : List Value) (A : Option Addr) (m c : Nat) (news : List Value)
    (ht : P.underlying t = some (.slice e)) (hi : (P.info? e).map (fun i => (i.zero, i.size, i.bytes)) = some (some z, size, bytes)) (hzs : z.cells.size = size) (hsz : 0 < size)
    (hs : a.eval s = v) (hown : w.ownsRow base e size v n xs) (hx : a.eval x = .slice A m c) (hl : news.length = m * size) (hnews : ∀ j u, news[j]? = some u → ∃ ad, A = some ad ∧ w.cell? (ad.add j) = some u) (h1 : ∀ u ∈ news, u.oneCell' = true)
    (h63 : n + m ≤ maxLen) (hbytes : (n + m) * bytes ≤ 140737488355328) (hbase : base ≤ w.heap.size)
    (h : ∀ v' w', w'.ownsRow base e size v' (n + m) (xs ++ news) → w.grownBy w' v.ownBlock → (v'.ownBlock = v.ownBlock ∨ v'.ownBlock = some w.heap.size) → K (a.put o.dst v') w') : o.wp P a w K Q := by
  obtain ⟨v', w', hr, h2, h3, h4⟩ := run_append_row (ty := o.type) (c := c) ht hi hzs hsz hown hl hnews h1 h63 hbytes hbase
  unfold Oper.wp execOp
  simp only [ho, resolve, invoke, builtin, Sem.run_bind, Sem.run_pure, Result.andThen_ok, List.map_toArray, List.map_cons, List.map_nil, hs, hx, hr]
  exact h v' w' h2 h3 h4
/-- In a plain region's list of operations. -/
theorem wpList_append_row {P : Program} {w : World} {ops : Array Oper} {rest : List Oper} {o : Oper} {a : Act} {Q : Exit → Act → World → Prop} (hgd : o.guard = none) (s x : Operand) (t : TypeId)
    (ho : o.op = .call { callee := .builtin .append, args := #[s, x], argTypes := #[t, t] }) (base : Nat) (e : TypeId) (size bytes n : Nat) (z v : Value) (xs : List Value) (A : Option Addr) (m c : Nat) (news : List Value)
    (ht : P.underlying t = some (.slice e)) (hi : (P.info? e).map (fun i => (i.zero, i.size, i.bytes)) = some (some z, size, bytes)) (hzs : z.cells.size = size) (hsz : 0 < size)
    (hs : a.eval s = v) (hown : w.ownsRow base e size v n xs) (hx : a.eval x = .slice A m c) (hl : news.length = m * size) (hnews : ∀ j u, news[j]? = some u → ∃ ad, A = some ad ∧ w.cell? (ad.add j) = some u) (h1 : ∀ u ∈ news, u.oneCell' = true)
    (h63 : n + m ≤ maxLen) (hbytes : (n + m) * bytes ≤ 140737488355328) (hbase : base ≤ w.heap.size)
    (h : ∀ v' w', w'.ownsRow base e size v' (n + m) (xs ++ news) → w.grownBy w' v.ownBlock → (v'.ownBlock = v.ownBlock ∨ v'.ownBlock = some w.heap.size) → wpList P ops Q rest (a.put o.dst v') w') : wpList P ops Q (o :: rest) a w :=
  wpList_plain hgd fun _ hK => wp_append_row s x t ho base e size bytes n z v xs A m c news ht hi hzs hsz hs hown hx hl hnews h1 h63 hbytes hbase fun v' w' h2 h3 h4 => hK _ _ (h v' w' h2 h3 h4)
/-- As a free operation. -/
theorem steps_append {P : Program} {ρ : Operand → Value} {w : World} {o : Oper} {K : Value → World → Prop} (s x : Operand) (t : TypeId)
    (ho : o.op = .call { callee := .builtin .append, args := #[s, x], argTypes := #[t, t] }) (base : Nat) (e : TypeId) (size bytes n : Nat) (z v : Value) (xs : List Value) (A : Option Addr) (m c : Nat) (news : List Value)
    (ht : P.underlying t = some (.slice e)) (hi : (P.info? e).map (fun i => (i.zero, i.size, i.bytes)) = some (some z, size, bytes)) (hzs : z.cells.size = size) (hsz : 0 < size)
    (hs : ρ s = v) (hown : w.ownsRow base e size v n xs) (hx : ρ x = .slice A m c) (hl : news.length = m * size) (hnews : ∀ j u, news[j]? = some u → ∃ ad, A = some ad ∧ w.cell? (ad.add j) = some u) (h1 : ∀ u ∈ news, u.oneCell' = true)
    (h63 : n + m ≤ maxLen) (hbytes : (n + m) * bytes ≤ 140737488355328) (hbase : base ≤ w.heap.size)
    (h : ∀ v' w', w'.ownsRow base e size v' (n + m) (xs ++ news) → w.grownBy w' v.ownBlock → (v'.ownBlock = v.ownBlock ∨ v'.ownBlock = some w.heap.size) → K v' w') : stepsTo P ((execOp ρ o).run P w) K := by
  obtain ⟨v', w', hr, h2, h3, h4⟩ := run_append_row (ty := o.type) (c := c) ht hi hzs hsz hown hl hnews h1 h63 hbytes hbase
  have e2 : (execOp ρ o).run P w = .ok (.value v') w' := by
    unfold execOp
    simp only [ho, resolve, invoke, builtin, Sem.run_bind, Sem.run_pure, Result.andThen_ok, List.map_toArray, List.map_cons, List.map_nil, hs, hx, hr]
  rw [e2]
  exact h v' w' h2 h3 h4
/-- A slice that is written out, as a free operation. -/
theorem steps_build {P : Program} {ρ : Operand → Value} {w : World} {o : Oper} {K : Value → World → Prop} (t e : TypeId) (len size bytes : Nat) (z : Value) (parts : Array (Nat × Operand)) (cells : Array Value) (ho : o.op = .buildSlice t len parts)
    (ht : P.underlying t = some (.slice e)) (hi : (P.info? e).map (fun i => (i.zero, i.size, i.bytes)) = some (some z, size, bytes)) (hs : ¬ len * size > 2 ^ 24) (hp : ¬ len * size = 0)
    (hf : Instr.fill (fun i => some (i * size, size)) ((Array.range (len * size)).map (z.cells[· % z.cells.size]!)) (parts.map fun (i, x) => (i, ρ x)).toList = some cells)
    (h : K (.slice (some ⟨w.heap.size, 0, none⟩) len len) (w.alloc (.cells cells e))) : stepsTo P ((execOp ρ o).run P w) K := by
  obtain ⟨i, hi0, hi1⟩ := Option.map_eq_some_iff.1 hi
  simp only [Prod.mk.injEq] at hi1
  obtain ⟨hz, rfl, rfl⟩ := hi1
  have e2 : (execOp ρ o).run P w = .ok (.value (.slice (some ⟨w.heap.size, 0, none⟩) len len)) (w.alloc (.cells cells e)) := by
    unfold execOp
    simp only [ho, Sem.run_bind, run_buildSlice w t e len _ cells i z ht hi0 hz hs hp hf, Result.andThen_ok, Sem.run_pure]
  rw [e2]
  exact h
/-- An empty slice that is written out. -/
theorem steps_buildNil {P : Program} {ρ : Operand → Value} {w : World} {o : Oper} {K : Value → World → Prop} (t e : TypeId) (ho : o.op = .buildSlice t 0 #[])
    (ht : P.underlying t = some (.slice e)) (hi : (P.info? e).isSome = true)
    (h : K (.slice (some ⟨w.heap.size, 0, none⟩) 0 0) (w.alloc (.cells #[] e))) : stepsTo P ((execOp ρ o).run P w) K := by
  obtain ⟨i, hi0⟩ := Option.isSome_iff_exists.1 hi
  have e2 : (execOp ρ o).run P w = .ok (.value (.slice (some ⟨w.heap.size, 0, none⟩) 0 0)) (w.alloc (.cells #[] e)) := by
    unfold execOp
    simp [ho, Instr.buildSlice, run_underlying ht, sizeOf, typeInfo, hi0, newRow, newObj, Instr.fill, go_sem]
    rfl
  rw [e2]
  exact h
end Go.Proofs.Ythbkccagpggljaa.Mx

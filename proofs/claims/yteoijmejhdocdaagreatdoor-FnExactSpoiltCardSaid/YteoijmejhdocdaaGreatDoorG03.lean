import Derived.Test.YteoijmejhdocdaaGreatDoorG02
import Derived.Maps.AppendAt
import Derived.Deep.Upon
import Derived.Deep.AppendLies
import Derived.Great.BuildSlice
import Derived.Test.YteoijmejhdocdaaGreatDoorRows
import Derived.WalkKit
import Derived.ProofKit
import Derived.OpenShut
import Derived.Below
import Derived.Deep.QuietTactic
import Derived.BigQuiet
import Derived.Test.YteoijmejhdocdaaGreatDoorG01
import Derived.Lib.Hide
import Derived.Outline
import Derived.Maps.OwnSet
import Derived.DeepKeys4
import Derived.MapViews
import Derived.Deep.RegionWith
import Derived.Laws.CopyOwn
import Derived.Laws.MakeOwn
namespace Go.Proofs.YteoijmejhdocdaaGreatDoor.Mx
open Go.ChangeShapes Go.WideShapes Go.ChangeAt Go.RowKit
set_option linter.unusedVariables false
section
variable {α : Type} [Inhabited α] {enc : α → List Value} {n : Nat} {T : TypeId} {w w' : World} {B B' base base' : Nat} {A : Option Addr} {L M : List α} {v : Value}
def Sls (enc : α → List Value) (n : Nat) (w : World) (B : Nat) (A : Option Addr) (L : List α) : Prop :=
  ∀ i, i < L.length → ∃ b off, A = some ⟨b, off, none⟩ ∧ b < B ∧ ∀ j, j < n → w.cell? ⟨b, off + i * n + j, none⟩ = (enc (L.getD i default))[j]?
theorem Sls.below (h : Sls enc n w B A L) (hb : Below B' w w') (hB : B ≤ B') : Sls enc n w' B A L := by
  intro i hi
  obtain ⟨b, off, rfl, hlt, hc⟩ := h i hi
  exact ⟨b, off, rfl, hlt, fun j hj => (hb.cell (p := ⟨b, off + i * n + j, none⟩) (Nat.lt_of_lt_of_le hlt hB)).trans (hc j hj)⟩
theorem Sls.more (h : Sls enc n w B A L) (hB : B ≤ B') : Sls enc n w B' A L := by
  intro i hi
  obtain ⟨b, off, e, hlt, c⟩ := h i hi
  exact ⟨b, off, e, by omega, c⟩
theorem Sls.grow (h : Sls enc n w w.heap.size A L) (hb : Below w.heap.size w w') : Sls enc n w' w'.heap.size A L := (h.below hb (Nat.le_refl _)).more hb.size
theorem Sls.nil : Sls enc n w B A [] := fun i hi => by simp at hi
def flatS (enc : α → List Value) (L : List α) : List Value := L.flatMap enc
omit [Inhabited α] in
theorem flatS_length (hn : ∀ x, (enc x).length = n) : (flatS enc L).length = L.length * n := by
  induction L with
  | nil => simp [flatS]
  | cons x L ih =>
    have : flatS enc (x :: L) = enc x ++ flatS enc L := by simp [flatS]
    rw [this, List.length_append, hn, ih, List.length_cons, Nat.succ_mul]; omega
theorem flatS_get (hn : ∀ x, (enc x).length = n) (i j : Nat) (hi : i < L.length) (hj : j < n) : (flatS enc L)[i * n + j]? = (enc (L.getD i default))[j]? := by
  induction L generalizing i with
  | nil => simp at hi
  | cons x L ih =>
    have hc : flatS enc (x :: L) = enc x ++ flatS enc L := by simp [flatS]
    rw [hc]
    cases i with
    | zero => rw [List.getElem?_append_left (by rw [hn]; omega)]; simp
    | succ i =>
      rw [List.getElem?_append_right (by rw [hn, Nat.succ_mul]; omega), hn, show (i + 1) * n + j - n = i * n + j by rw [Nat.succ_mul]; omega, ih i (by simpa using hi)]
      simp
def SRow (enc : α → List Value) (n : Nat) (T : TypeId) (w : World) (base : Nat) (v : Value) (L : List α) : Prop := w.ownsRow base T n v L.length (flatS enc L)
omit [Inhabited α] in
theorem SRow.kept {r : Option Nat} (h : SRow enc n T w base v L) (hg : w.grownBy w' r) (hb : v.ownBlock = none ∨ v.ownBlock ≠ r) : SRow enc n T w' base v L := World.ownsRow.kept h hg hb
omit [Inhabited α] in
theorem SRow.lt (h : SRow enc n T w base v L) {g : Nat} (hg : v.ownBlock = some g) : base ≤ g ∧ g < w.heap.size := World.ownsRow.lt h g hg
omit [Inhabited α] in
theorem SRow.grown {g : Nat} (h : SRow enc n T w base v L) (hg : w.grownBy w' (some g)) (hb : g < base) : SRow enc n T w' base v L := by
  refine h.kept hg ?_
  cases e : v.ownBlock with
  | none => exact .inl rfl
  | some k => exact .inr (by intro e2; injection e2 with e2; have := (h.lt e).1; omega)
omit [Inhabited α] in
theorem SRow.alloc (h : SRow enc n T w base v L) (o : Obj) : SRow enc n T (w.alloc o) base v L := World.ownsRow.alloc h o
omit [Inhabited α] in
theorem SRow.below (h : SRow enc n T w base v L) (hb : Below w.heap.size w w') : SRow enc n T w' base v L :=
  h.kept (below_gb hb none) (by cases e : v.ownBlock with | none => exact .inl rfl | some k => exact .inr (by intro e2; cases e2))
omit [Inhabited α] in
theorem SRow.made (w : World) (h : base ≤ w.heap.size) : SRow enc n T (w.alloc (.cells #[] T)) base (.slice (some ⟨w.heap.size, 0, none⟩) 0 0) ([] : List α) := World.ownsRow_made w #[] 0 h (by simp [maxLen]) (by simp)
omit [Inhabited α] in
theorem SRow.mono (h : SRow enc n T w base v L) (hb : base' ≤ base) : SRow enc n T w base' v L := by
  refine ⟨h.1, ?_⟩
  rcases h.2 with h0 | ⟨g, cap, cur, e, hg, r⟩
  · exact .inl h0
  · exact .inr ⟨g, cap, cur, e, Nat.le_trans hb hg, r⟩
theorem SRow.reads (hn : ∀ x, (enc x).length = n) (h : SRow enc n T w base v L) : ∃ A c, v = .slice A L.length c ∧ Sls enc n w w.heap.size A L ∧ L.length ≤ c := by
  rcases h.2 with ⟨rfl, h0⟩ | ⟨g, cap, cur, rfl, hb, hg, hnc, hcm, hcs, htake⟩
  · have : L = [] := List.length_eq_zero_iff.1 h0
    subst this
    exact ⟨none, 0, rfl, Sls.nil, Nat.le_refl _⟩
  · refine ⟨_, cap, rfl, fun i hi => ⟨g, 0, rfl, (Array.getElem?_eq_some_iff.1 hg).1, fun j hj => ?_⟩, hnc⟩
    have hlt : i * n + j < L.length * n := by
      have : (i + 1) * n ≤ L.length * n := Nat.mul_le_mul_right n hi
      rw [Nat.succ_mul] at this; omega
    rw [Nat.zero_add, World.ownsRow.cellAt h (i * n + j) hlt, flatS_get hn i j hi hj]
theorem Sls.news (hn : ∀ x, (enc x).length = n) (hp : 0 < n) (h : Sls enc n w B A L) : ∀ j u, (flatS enc L)[j]? = some u → ∃ ad, A = some ad ∧ w.cell? (ad.add j) = some u := by
  intro j u hu
  have hj : j < L.length * n := by have := (List.getElem?_eq_some_iff.1 hu).1; rwa [flatS_length hn] at this
  have hi : j / n < L.length := (Nat.div_lt_iff_lt_mul hp).2 hj
  obtain ⟨b, off, rfl, _, hc⟩ := h (j / n) hi
  refine ⟨_, rfl, ?_⟩
  have hm := Nat.mod_lt j hp
  have he : j / n * n + j % n = j := by rw [Nat.mul_comm]; exact Nat.div_add_mod j n
  rw [Addr.add_mid, show off + j = off + j / n * n + j % n by omega, hc _ hm, ← flatS_get hn _ _ hi hm, he, hu]
end
theorem run_append_row {P : Program} {w : World} {base : Nat} {t ty e : TypeId} {size bytes n : Nat} {z : Value} {v : Value} {xs : List Value} {A : Option Addr} {m c : Nat} {news : List Value}
    (ht : P.underlying t = some (.slice e)) (hi : (P.info? e).map (fun i => (i.zero, i.size, i.bytes)) = some (some z, size, bytes)) (hzs : z.cells.size = size) (hsz : 0 < size)
    (hown : w.ownsRow base e size v n xs) (hl : news.length = m * size) (hnews : ∀ j u, news[j]? = some u → ∃ ad, A = some ad ∧ w.cell? (ad.add j) = some u) (h1 : ∀ u ∈ news, u.oneCell' = true)
    (h63 : n + m ≤ maxLen) (hbytes : (n + m) * bytes ≤ 140737488355328) (hbase : base ≤ w.heap.size) :
    ∃ v' w', (Builtin.append_ #[t, t] ty #[v, .slice A m c]).run P w = .ok v' w' ∧ w'.ownsRow base e size v' (n + m) (xs ++ news) ∧ w.grownBy w' v.ownBlock ∧ (v'.ownBlock = v.ownBlock ∨ v'.ownBlock = some w.heap.size) := by
  obtain ⟨i, hi0, hi1⟩ := Option.map_eq_some_iff.1 hi
  simp only [Prod.mk.injEq] at hi1
  obtain ⟨hz, hsize, hby⟩ := hi1
  cases A with
  | some ad =>
    obtain ⟨v', w', hr, h2, h3, _, h5⟩ := run_append_own_at (P := P) w base t ty e i z size bytes ht hi0 hz hsize hby hzs hsz v n xs hown ad m c news hl (fun j u hu => by obtain ⟨ad', e, hc⟩ := hnews j u hu; injection e with e; rw [e]; exact hc) h1 h63 hbytes hbase
    exact ⟨v', w', hr, h2, h3, h5⟩
  | none =>
    have hnil : news = [] := by
      cases news with
      | nil => rfl
      | cons u r => obtain ⟨ad, e, _⟩ := hnews 0 u rfl; cases e
    subst hnil
    have hm0 : m = 0 := by
      rcases Nat.eq_zero_or_pos m with h | h
      · exact h
      · have := Nat.mul_pos h hsz; simp at hl; omega
    subst hm0
    obtain ⟨bse, cp, hv, hle⟩ : ∃ bse cp, v = .slice bse n cp ∧ n ≤ cp := by
      rcases hown.2 with ⟨rfl, rfl⟩ | ⟨g, cap, cur, rfl, _, _, hnc, _⟩
      · exact ⟨none, 0, rfl, Nat.le_refl _⟩
      · exact ⟨_, cap, rfl, hnc⟩
    refine ⟨v, w, ?_, by simpa using hown, gb_refl _ _, .inl rfl⟩
    rw [hv]
    exact run_append_nothing (P := P) w t t ty e i ht hi0 bse n cp hle _ (Src.ofNil w ht c)
theorem wp_append_row {P : Program} {w : World} {o : Oper} {a : Act} {K : Act → World → Prop} {Q : Exit → Act → World → Prop} (s x : Operand) (t : TypeId)
    (ho : o.op = .call { callee := .builtin .append, args := #[s, x], argTypes := #[t, t] }) (base : Nat) (e : TypeId) (size bytes n : Nat) (z v : Value) (xs : List Value) (A : Option Addr) (m c : Nat) (news : List Value)
    (ht : P.underlying t = some (.slice e)) (hi : (P.info? e).map (fun i => (i.zero, i.size, i.bytes)) = some (some z, size, bytes)) (hzs : z.cells.size = size) (hsz : 0 < size)
    (hs : a.eval s = v) (hown : w.ownsRow base e size v n xs) (hx : a.eval x = .slice A m c) (hl : news.length = m * size) (hnews : ∀ j u, news[j]? = some u → ∃ ad, A = some ad ∧ w.cell? (ad.add j) = some u) (h1 : ∀ u ∈ news, u.oneCell' = true)
    (h63 : n + m ≤ maxLen) (hbytes : (n + m) * bytes ≤ 140737488355328) (hbase : base ≤ w.heap.size)
    (h : ∀ v' w', w'.ownsRow base e size v' (n + m) (xs ++ news) → w.grownBy w' v.ownBlock → (v'.ownBlock = v.ownBlock ∨ v'.ownBlock = some w.heap.size) → K (a.put o.dst v') w') : o.wp P a w K Q := by
  obtain ⟨v', w', hr, h2, h3, h4⟩ := run_append_row (ty := o.type) (c := c) ht hi hzs hsz hown hl hnews h1 h63 hbytes hbase
  unfold Oper.wp execOp
  simp only [ho, resolve, invoke, builtin, Sem.run_bind, Sem.run_pure, Result.andThen_ok, List.map_toArray, List.map_cons, List.map_nil, hs, hx, hr]
  exact h v' w' h2 h3 h4
theorem wpList_append_row {P : Program} {w : World} {ops : Array Oper} {rest : List Oper} {o : Oper} {a : Act} {Q : Exit → Act → World → Prop} (hgd : o.guard = none) (s x : Operand) (t : TypeId)
    (ho : o.op = .call { callee := .builtin .append, args := #[s, x], argTypes := #[t, t] }) (base : Nat) (e : TypeId) (size bytes n : Nat) (z v : Value) (xs : List Value) (A : Option Addr) (m c : Nat) (news : List Value)
    (ht : P.underlying t = some (.slice e)) (hi : (P.info? e).map (fun i => (i.zero, i.size, i.bytes)) = some (some z, size, bytes)) (hzs : z.cells.size = size) (hsz : 0 < size)
    (hs : a.eval s = v) (hown : w.ownsRow base e size v n xs) (hx : a.eval x = .slice A m c) (hl : news.length = m * size) (hnews : ∀ j u, news[j]? = some u → ∃ ad, A = some ad ∧ w.cell? (ad.add j) = some u) (h1 : ∀ u ∈ news, u.oneCell' = true)
    (h63 : n + m ≤ maxLen) (hbytes : (n + m) * bytes ≤ 140737488355328) (hbase : base ≤ w.heap.size)
    (h : ∀ v' w', w'.ownsRow base e size v' (n + m) (xs ++ news) → w.grownBy w' v.ownBlock → (v'.ownBlock = v.ownBlock ∨ v'.ownBlock = some w.heap.size) → wpList P ops Q rest (a.put o.dst v') w') : wpList P ops Q (o :: rest) a w :=
  wpList_plain hgd fun _ hK => wp_append_row s x t ho base e size bytes n z v xs A m c news ht hi hzs hsz hs hown hx hl hnews h1 h63 hbytes hbase fun v' w' h2 h3 h4 => hK _ _ (h v' w' h2 h3 h4)
theorem steps_append {P : Program} {ρ : Operand → Value} {w : World} {o : Oper} {K : Value → World → Prop} (s x : Operand) (t : TypeId)
    (ho : o.op = .call { callee := .builtin .append, args := #[s, x], argTypes := #[t, t] }) (base : Nat) (e : TypeId) (size bytes n : Nat) (z v : Value) (xs : List Value) (A : Option Addr) (m c : Nat) (news : List Value)
    (ht : P.underlying t = some (.slice e)) (hi : (P.info? e).map (fun i => (i.zero, i.size, i.bytes)) = some (some z, size, bytes)) (hzs : z.cells.size = size) (hsz : 0 < size)
    (hs : ρ s = v) (hown : w.ownsRow base e size v n xs) (hx : ρ x = .slice A m c) (hl : news.length = m * size) (hnews : ∀ j u, news[j]? = some u → ∃ ad, A = some ad ∧ w.cell? (ad.add j) = some u) (h1 : ∀ u ∈ news, u.oneCell' = true)
    (h63 : n + m ≤ maxLen) (hbytes : (n + m) * bytes ≤ 140737488355328) (hbase : base ≤ w.heap.size)
    (h : ∀ v' w', w'.ownsRow base e size v' (n + m) (xs ++ news) → w.grownBy w' v.ownBlock → (v'.ownBlock = v.ownBlock ∨ v'.ownBlock = some w.heap.size) → K v' w') : stepsTo P ((execOp ρ o).run P w) K := by
  obtain ⟨v', w', hr, h2, h3, h4⟩ := run_append_row (ty := o.type) (c := c) ht hi hzs hsz hown hl hnews h1 h63 hbytes hbase
  have e2 : (execOp ρ o).run P w = .ok (.value v') w' := by
    unfold execOp
    simp only [ho, resolve, invoke, builtin, Sem.run_bind, Sem.run_pure, Result.andThen_ok, List.map_toArray, List.map_cons, List.map_nil, hs, hx, hr]
  rw [e2]
  exact h v' w' h2 h3 h4
theorem steps_build {P : Program} {ρ : Operand → Value} {w : World} {o : Oper} {K : Value → World → Prop} (t e : TypeId) (len size bytes : Nat) (z : Value) (parts : Array (Nat × Operand)) (cells : Array Value) (ho : o.op = .buildSlice t len parts)
    (ht : P.underlying t = some (.slice e)) (hi : (P.info? e).map (fun i => (i.zero, i.size, i.bytes)) = some (some z, size, bytes)) (hs : ¬ len * size > 2 ^ 24) (hp : ¬ len * size = 0)
    (hf : Instr.fill (fun i => some (i * size, size)) ((Array.range (len * size)).map (z.cells[· % z.cells.size]!)) (parts.map fun (i, x) => (i, ρ x)).toList = some cells)
    (h : K (.slice (some ⟨w.heap.size, 0, none⟩) len len) (w.alloc (.cells cells e))) : stepsTo P ((execOp ρ o).run P w) K := by
  obtain ⟨i, hi0, hi1⟩ := Option.map_eq_some_iff.1 hi
  simp only [Prod.mk.injEq] at hi1
  obtain ⟨hz, rfl, rfl⟩ := hi1
  have e2 : (execOp ρ o).run P w = .ok (.value (.slice (some ⟨w.heap.size, 0, none⟩) len len)) (w.alloc (.cells cells e)) := by
    unfold execOp
    simp only [ho, Sem.run_bind, run_buildSlice w t e len _ cells i z ht hi0 hz hs hp hf, Result.andThen_ok, Sem.run_pure]
  rw [e2]
  exact h
theorem steps_buildNil {P : Program} {ρ : Operand → Value} {w : World} {o : Oper} {K : Value → World → Prop} (t e : TypeId) (ho : o.op = .buildSlice t 0 #[])
    (ht : P.underlying t = some (.slice e)) (hi : (P.info? e).isSome = true)
    (h : K (.slice (some ⟨w.heap.size, 0, none⟩) 0 0) (w.alloc (.cells #[] e))) : stepsTo P ((execOp ρ o).run P w) K := by
  obtain ⟨i, hi0⟩ := Option.isSome_iff_exists.1 hi
  have e2 : (execOp ρ o).run P w = .ok (.value (.slice (some ⟨w.heap.size, 0, none⟩) 0 0)) (w.alloc (.cells #[] e)) := by
    unfold execOp
    simp [ho, Instr.buildSlice, run_underlying ht, sizeOf, typeInfo, hi0, newRow, newObj, Instr.fill, go_sem]
    rfl
  rw [e2]
  exact h
theorem isSum_yes (s : Int) (w : World) (h0 : 0 ≤ s) (h1 : s ≤ 4611686018427387903) :
    Calls Tryz.prog 261 #[.int .i64 s] w fun e w' => e = .returned (.bool true) ∧ w = w' := by
  have h2 : s < 4611686018427387904 := by omega
  go_enter Tryz.func261, Tryz.ntmps261
  go_wp2
  go_ret
  exact ⟨rfl, rfl⟩
theorem isSum_no (s : Int) (w : World) (h : s < 0 ∨ 4611686018427387903 < s) :
    Calls Tryz.prog 261 #[.int .i64 s] w fun e w' => e = .returned (.bool false) ∧ w = w' := by
  by_cases h0 : 0 ≤ s
  · have h2 : ¬ s < 4611686018427387904 := by omega
    clear h
    go_enter Tryz.func261, Tryz.ntmps261
    go_wp2
    go_ret
    exact ⟨rfl, rfl⟩
  · clear h
    go_enter Tryz.func261, Tryz.ntmps261
    go_wp2
    go_ret
    exact ⟨rfl, rfl⟩
theorem l1In_yes (s lo hi : Int) (w : World) (h0 : lo ≤ s) (h1 : s ≤ hi) :
    Calls Tryz.prog 82 #[.int .i64 s, .int .i64 lo, .int .i64 hi] w fun e w' => e = .returned (.bool true) ∧ w = w' := by
  go_enter Tryz.func82, Tryz.ntmps82
  go_wp2
  go_ret
  exact ⟨rfl, rfl⟩
theorem l1In_no (s lo hi : Int) (w : World) (h : s < lo ∨ hi < s) :
    Calls Tryz.prog 82 #[.int .i64 s, .int .i64 lo, .int .i64 hi] w fun e w' => e = .returned (.bool false) ∧ w = w' := by
  by_cases h0 : lo ≤ s
  · have h2 : ¬ s ≤ hi := by omega
    clear h
    go_enter Tryz.func82, Tryz.ntmps82
    go_wp2
    go_ret
    exact ⟨rfl, rfl⟩
  · clear h
    go_enter Tryz.func82, Tryz.ntmps82
    go_wp2
    go_ret
    exact ⟨rfl, rfl⟩
theorem isKey_yes (s : Int) (w : World) (h0 : 1 ≤ s) (h1 : s ≤ 1000000) :
    Calls Tryz.prog 135 #[.int .i64 s] w fun e w' => e = .returned (.bool true) ∧ w = w' := by
  go_enter Tryz.func135, Tryz.ntmps135
  go_wp2
  go_ret
  exact ⟨rfl, rfl⟩
theorem isKey_no (s : Int) (w : World) (h : s < 1 ∨ 1000000 < s) :
    Calls Tryz.prog 135 #[.int .i64 s] w fun e w' => e = .returned (.bool false) ∧ w = w' := by
  by_cases h0 : 1 ≤ s
  · have h2 : ¬ s ≤ 1000000 := by omega
    clear h
    go_enter Tryz.func135, Tryz.ntmps135
    go_wp2
    go_ret
    exact ⟨rfl, rfl⟩
  · clear h
    go_enter Tryz.func135, Tryz.ntmps135
    go_wp2
    go_ret
    exact ⟨rfl, rfl⟩
theorem anyNegative_no (A : Option Addr) (l : List Int) (cap B : Nat) (w : World) (hn : l.length ≤ maxLen) (hA : Ints w .i64 B A l) (hf : Fine l) :
    Calls Tryz.prog 240 #[.slice A l.length cap] w fun e w' => e = .returned (.bool false) ∧ w = w' := by
  unfold maxLen at hn
  go_enter Tryz.func240, Tryz.ntmps240
  go_wp2
  go_loop [7] (fun i => ∃ k : Nat, k ≤ l.length ∧ i = .int .i64 k) (fun i => l.length - (intOf i).toNat)
  case atStart => exact ⟨0, Nat.zero_le _, rfl⟩
  case round =>
    obtain ⟨k, hk, rfl⟩ := hrel
    by_cases hlt : k < l.length
    · obtain ⟨b, off, rfl, hb, hc⟩ := hA k hlt
      have hv0 := hf k hlt
      generalize l.getD k 0 = v at hc hv0
      clear hA hf
      go_wp2
      go_round
      case rel => exact ⟨k + 1, by omega, by go_num⟩
      case measure => simp [intOf]; omega
    · clear hA hf
      go_wp2
      go_ret
      exact ⟨rfl, rfl⟩
theorem anyNegative_yes (A : Option Addr) (l : List Int) (cap B : Nat) (w : World) (hn : l.length ≤ maxLen) (hA : Ints w .i64 B A l) (hf : ∃ i, i < l.length ∧ l.getD i 0 < 0) :
    Calls Tryz.prog 240 #[.slice A l.length cap] w fun e w' => e = .returned (.bool true) ∧ w = w' := by
  unfold maxLen at hn
  obtain ⟨j, hj, hjv⟩ := hf
  go_enter Tryz.func240, Tryz.ntmps240
  go_wp2
  go_loop [7] (fun i => ∃ k : Nat, k ≤ j ∧ i = .int .i64 k) (fun i => l.length - (intOf i).toNat)
  case atStart => exact ⟨0, Nat.zero_le _, rfl⟩
  case round =>
    obtain ⟨k, hk, rfl⟩ := hrel
    have hlt : k < l.length := by omega
    obtain ⟨b, off, rfl, hb, hc⟩ := hA k hlt
    clear hA
    by_cases hkj : k = j
    · subst hkj
      generalize l.getD k 0 = v at hc hjv
      go_wp2
      go_ret
      exact ⟨rfl, rfl⟩
    · have hkj' : k < j := by omega
      clear hkj hjv
      generalize l.getD k 0 = v at hc
      by_cases hv : v < 0
      · go_wp2
        go_ret
        exact ⟨rfl, rfl⟩
      · go_wp2
        go_round
        case rel => exact ⟨k + 1, by omega, by go_num⟩
        case measure => simp [intOf]; omega
theorem rolled_x (s : Int) (A : Option Addr) (l : List Int) (cap B : Nat) (w : World) (hn : l.length ≤ maxLen) (hA : Ints w .i64 B A l) (hf : Fine l) (hi : I64s l) (s0 : 0 ≤ s) (s1 : s ≤ 2147483628) :
    Calls Tryz.prog 241 #[.int .i64 s, .int .i64 131, .int .i64 2147483647, .slice A l.length cap] w fun e w' => e = .returned (.int .i64 (roll 131 2147483647 s l)) ∧ w = w' := by
  unfold maxLen at hn
  go_enter Tryz.func241, Tryz.ntmps241
  go_wp2
  go_loop [9, 15] (fun r i => ∃ k : Nat, k ≤ l.length ∧ i = .int .i64 k ∧ r = .int .i64 (roll 131 2147483647 s (l.take k))) (fun _ i => l.length - (intOf i).toNat)
  case atStart => exact ⟨0, Nat.zero_le _, rfl, rfl⟩
  case round =>
    obtain ⟨k, hk, rfl, rfl⟩ := hrel
    by_cases hlt : k < l.length
    · obtain ⟨b, off, rfl, hb, hc⟩ := hA k hlt
      have hv0 := hf k hlt
      have hv1 := (hi k hlt).2
      have hR := roll_bd 131 2147483647 s (l.take k) (by omega) s0 (by omega)
      have hst := roll_take 131 2147483647 s l k hlt
      have HS := Lib.hid hst
      clear hst hA hf hi
      generalize l.getD k 0 = v at hc hv0 hv1 HS
      generalize roll 131 2147483647 s (l.take k) = R at hR HS
      obtain ⟨hR0, hR1⟩ := hR
      go_wp2
      go_round
      case rel => exact ⟨k + 1, by omega, by go_num, by rw [HS.out]⟩
      case measure => simp [intOf]; omega
    · have hk' : k = l.length := by omega
      clear hA hf hi
      have HR : roll 131 2147483647 s (l.take k) = roll 131 2147483647 s l := by rw [hk', roll_all]
      rw [HR]; clear HR
      go_wp2
      go_ret
      exact ⟨rfl, rfl⟩
theorem rolled_y (s : Int) (A : Option Addr) (l : List Int) (cap B : Nat) (w : World) (hn : l.length ≤ maxLen) (hA : Ints w .i64 B A l) (hf : Fine l) (hi : I64s l) (s0 : 0 ≤ s) (s1 : s ≤ 2147483628) :
    Calls Tryz.prog 241 #[.int .i64 s, .int .i64 137, .int .i64 2147483629, .slice A l.length cap] w fun e w' => e = .returned (.int .i64 (roll 137 2147483629 s l)) ∧ w = w' := by
  unfold maxLen at hn
  go_enter Tryz.func241, Tryz.ntmps241
  go_wp2
  go_loop [9, 15] (fun r i => ∃ k : Nat, k ≤ l.length ∧ i = .int .i64 k ∧ r = .int .i64 (roll 137 2147483629 s (l.take k))) (fun _ i => l.length - (intOf i).toNat)
  case atStart => exact ⟨0, Nat.zero_le _, rfl, rfl⟩
  case round =>
    obtain ⟨k, hk, rfl, rfl⟩ := hrel
    by_cases hlt : k < l.length
    · obtain ⟨b, off, rfl, hb, hc⟩ := hA k hlt
      have hv0 := hf k hlt
      have hv1 := (hi k hlt).2
      have hR := roll_bd 137 2147483629 s (l.take k) (by omega) s0 (by omega)
      have hst := roll_take 137 2147483629 s l k hlt
      have HS := Lib.hid hst
      clear hst hA hf hi
      generalize l.getD k 0 = v at hc hv0 hv1 HS
      generalize roll 137 2147483629 s (l.take k) = R at hR HS
      obtain ⟨hR0, hR1⟩ := hR
      go_wp2
      go_round
      case rel => exact ⟨k + 1, by omega, by go_num, by rw [HS.out]⟩
      case measure => simp [intOf]; omega
    · have hk' : k = l.length := by omega
      clear hA hf hi
      have HR : roll 137 2147483629 s (l.take k) = roll 137 2147483629 s l := by rw [hk', roll_all]
      rw [HR]; clear HR
      go_wp2
      go_ret
      exact ⟨rfl, rfl⟩
theorem mixed_calls (key : Int) (A : Option Addr) (l : List Int) (cap B : Nat) (w : World) (hn : l.length ≤ maxLen) (hA : Ints w .i64 B A l) (hi : I64s l) :
    Calls Tryz.prog 212 (pA key A l.length cap) w fun e w' => e = .returned (.int .i64 (mixOf key l)) ∧ w = w' := by
  by_cases hk : 1 ≤ key ∧ key ≤ 1000000
  · obtain ⟨k0, k1⟩ := hk
    by_cases hf : Fine l
    · rw [mixOf_yes k0 k1 hf]
      have X := roll_bd 131 2147483647 (7 + key) l (by omega) (by omega) (by omega)
      have Y := roll_bd 137 2147483629 (11 + 2 * key) l (by omega) (by omega) (by omega)
      have C1 := Lib.hid (fun w h => rolled_x (7 + key) A l cap B w hn h hf hi (by omega) (by omega))
      have C2 := Lib.hid (fun w h => rolled_y (11 + 2 * key) A l cap B w hn h hf hi (by omega) (by omega))
      have C0 := Lib.hid (anyNegative_no A l cap B w hn hA hf)
      have HA := Lib.hid hA
      clear hA hf hi hn
      generalize roll 131 2147483647 (7 + key) l = x at X C1
      generalize roll 137 2147483629 (11 + 2 * key) l = y at Y C2
      obtain ⟨x0, x1⟩ := X
      obtain ⟨y0, y1⟩ := Y
      go_enter Tryz.func212, Tryz.ntmps212
      go_wp2_with fail
      refine (isKey_yes _ _ k0 k1).mono ?_; rintro e w' ⟨rfl, rfl⟩
      go_wp2_with fail
      refine C0.out.mono ?_; rintro e w' ⟨rfl, rfl⟩
      go_wp2_with fail
      refine (C1.out _ HA.out).mono ?_; rintro e w' ⟨rfl, rfl⟩
      go_wp2_with fail
      refine (C2.out _ HA.out).mono ?_; rintro e w' ⟨rfl, rfl⟩
      go_wp2
      go_ret
      exact ⟨rfl, rfl⟩
    · rw [mixOf_neg hf]
      have hf' := not_fine hf
      have C0 := Lib.hid (anyNegative_yes A l cap B w hn hA hf')
      clear hA hf hi hn hf'
      go_enter Tryz.func212, Tryz.ntmps212
      go_wp2_with fail
      refine (isKey_yes _ _ k0 k1).mono ?_; rintro e w' ⟨rfl, rfl⟩
      go_wp2_with fail
      refine C0.out.mono ?_; rintro e w' ⟨rfl, rfl⟩
      go_wp2
      go_ret
      exact ⟨rfl, rfl⟩
  · have hk' : key < 1 ∨ 1000000 < key := by omega
    rw [mixOf_key hk']
    clear hA hi hn hk
    go_enter Tryz.func212, Tryz.ntmps212
    go_wp2_with fail
    refine (isKey_no _ _ hk').mono ?_; rintro e w' ⟨rfl, rfl⟩
    go_wp2
    go_ret
    exact ⟨rfl, rfl⟩
theorem l1Key_yes (s : Int) (w : World) (h0 : 1 ≤ s) (h1 : s ≤ 1000000) :
    Calls Tryz.prog 145 #[.int .i64 s] w fun e w' => e = .returned (.bool true) ∧ w = w' := by
  go_enter Tryz.func145, Tryz.ntmps145
  go_wp2_with (go_at_call 82; refine (l1In_yes _ _ _ _ h0 h1).mono ?_; rintro e w' ⟨rfl, rfl⟩)
  go_ret
  exact ⟨rfl, rfl⟩
theorem l1Key_no (s : Int) (w : World) (h : s < 1 ∨ 1000000 < s) :
    Calls Tryz.prog 145 #[.int .i64 s] w fun e w' => e = .returned (.bool false) ∧ w = w' := by
  go_enter Tryz.func145, Tryz.ntmps145
  go_wp2_with (go_at_call 82; refine (l1In_no _ _ _ _ h).mono ?_; rintro e w' ⟨rfl, rfl⟩)
  go_ret
  exact ⟨rfl, rfl⟩
theorem specMix_fine (key : Int) (A : Option Addr) (l : List Int) (cap B : Nat) (w : World) (hn : l.length ≤ maxLen) (hA : Ints w .i64 B A l) (hi : I64s l) (hf : Fine l) (k0 : 1 ≤ key) (k1 : key ≤ 1000000) :
    Calls Tryz.prog 216 (pA key A l.length cap) w fun e w' => e = .returned (.int .i64 (mixOf key l)) ∧ w = w' := by
  unfold maxLen at hn
  rw [mixOf_yes k0 k1 hf]
  have FX := roll_bd 131 2147483647 (7 + key) l (by omega) (by omega) (by omega)
  have FY := roll_bd 137 2147483629 (11 + 2 * key) l (by omega) (by omega) (by omega)
  generalize hx : roll 131 2147483647 (7 + key) l = x at FX
  generalize hy : roll 137 2147483629 (11 + 2 * key) l = y at FY
  have HX := Lib.hid hx
  have HY := Lib.hid hy
  clear hx hy
  obtain ⟨fx0, fx1⟩ := FX
  obtain ⟨fy0, fy1⟩ := FY
  go_enter Tryz.func216, Tryz.ntmps216
  go_wp2_with (go_at_call 145; refine (l1Key_yes _ _ k0 k1).mono ?_; rintro e w' ⟨rfl, rfl⟩)
  go_loop [5, 6, 7] (fun x y i => ∃ k : Nat, k ≤ l.length ∧ i = .int .i64 k ∧ x = .int .i64 (roll 131 2147483647 (7 + key) (l.take k)) ∧ y = .int .i64 (roll 137 2147483629 (11 + 2 * key) (l.take k))) (fun _ _ i => l.length - (intOf i).toNat)
  case atStart => exact ⟨0, Nat.zero_le _, rfl, rfl, rfl⟩
  case round =>
    obtain ⟨k, hk, rfl, rfl, rfl⟩ := hrel
    have X := roll_bd 131 2147483647 (7 + key) (l.take k) (by omega) (by omega) (by omega)
    have Y := roll_bd 137 2147483629 (11 + 2 * key) (l.take k) (by omega) (by omega) (by omega)
    by_cases hlt : k < l.length
    · obtain ⟨b, off, rfl, hb, hc⟩ := hA k hlt
      have hv0 := hf k hlt
      have hv1 := (hi k hlt).2
      have HS := Lib.hid (roll_take 131 2147483647 (7 + key) l k hlt)
      have HT := Lib.hid (roll_take 137 2147483629 (11 + 2 * key) l k hlt)
      clear hA hf hi
      generalize l.getD k 0 = v at hc hv0 hv1 HS HT
      generalize roll 131 2147483647 (7 + key) (l.take k) = x at X HS
      generalize roll 137 2147483629 (11 + 2 * key) (l.take k) = y at Y HT
      obtain ⟨x0, x1⟩ := X
      obtain ⟨y0, y1⟩ := Y
      go_wp2
      go_round
      case rel => exact ⟨k + 1, by omega, by go_num, by rw [HS.out]; go_num, by rw [HT.out]; go_num⟩
      case measure => simp [intOf]; omega
    · have hk' : k = l.length := by omega
      clear hA hf hi
      have HR : roll 131 2147483647 (7 + key) (l.take k) = x := by rw [hk', roll_all]; exact HX.out
      have HQ : roll 137 2147483629 (11 + 2 * key) (l.take k) = y := by rw [hk', roll_all]; exact HY.out
      rw [HR, HQ]
      clear HR HQ X Y
      go_wp2
      go_ret
      exact ⟨rfl, rfl⟩
theorem specMix_neg (key : Int) (A : Option Addr) (l : List Int) (cap B : Nat) (w : World) (hn : l.length ≤ maxLen) (hA : Ints w .i64 B A l) (hf : ∃ i, i < l.length ∧ l.getD i 0 < 0) (k0 : 1 ≤ key) (k1 : key ≤ 1000000) :
    Calls Tryz.prog 216 (pA key A l.length cap) w fun e w' => e = .returned (.int .i64 (-1)) ∧ w = w' := by
  unfold maxLen at hn
  obtain ⟨j, hj, hjv⟩ := hf
  go_enter Tryz.func216, Tryz.ntmps216
  go_wp2_with (go_at_call 145; refine (l1Key_yes _ _ k0 k1).mono ?_; rintro e w' ⟨rfl, rfl⟩)
  go_loop [5, 6, 7] (fun x y i => ∃ k : Nat, k ≤ j ∧ i = .int .i64 k ∧ (∃ X, x = .int .i64 X) ∧ (∃ Y, y = .int .i64 Y)) (fun _ _ i => l.length - (intOf i).toNat)
  case atStart => exact ⟨0, Nat.zero_le _, rfl, ⟨_, rfl⟩, ⟨_, rfl⟩⟩
  case round =>
    obtain ⟨k, hk, rfl, ⟨X, rfl⟩, ⟨Y, rfl⟩⟩ := hrel
    have hlt : k < l.length := by omega
    obtain ⟨b, off, rfl, hb, hc⟩ := hA k hlt
    clear hA
    by_cases hkj : k = j
    · subst hkj
      generalize l.getD k 0 = v at hc hjv
      go_wp2
      go_ret
      exact ⟨rfl, rfl⟩
    · have hkj' : k < j := by omega
      clear hkj hjv
      generalize l.getD k 0 = v at hc
      by_cases hv : v < 0
      · go_wp2
        go_ret
        exact ⟨rfl, rfl⟩
      · go_wp2
        go_round
        case rel => exact ⟨k + 1, by omega, by go_num, ⟨_, rfl⟩, ⟨_, rfl⟩⟩
        case measure => simp [intOf]; omega
theorem specMix_calls (key : Int) (A : Option Addr) (l : List Int) (cap B : Nat) (w : World) (hn : l.length ≤ maxLen) (hA : Ints w .i64 B A l) (hi : I64s l) :
    Calls Tryz.prog 216 (pA key A l.length cap) w fun e w' => e = .returned (.int .i64 (mixOf key l)) ∧ w = w' := by
  by_cases hk : 1 ≤ key ∧ key ≤ 1000000
  · obtain ⟨k0, k1⟩ := hk
    by_cases hf : Fine l
    · exact specMix_fine key A l cap B w hn hA hi hf k0 k1
    · rw [mixOf_neg hf]
      exact specMix_neg key A l cap B w hn hA (not_fine hf) k0 k1
  · have hk' : key < 1 ∨ 1000000 < key := by omega
    rw [mixOf_key hk']
    clear hA hi hn hk
    go_enter Tryz.func216, Tryz.ntmps216
    go_wp2_with (go_at_call 145; refine (l1Key_no _ _ hk').mono ?_; rintro e w' ⟨rfl, rfl⟩)
    go_ret
    exact ⟨rfl, rfl⟩
def I64 (x : Int) : Prop := -9223372036854775808 ≤ x ∧ x ≤ 9223372036854775807
def isVal (v : Int) : Prop := 0 ≤ v ∧ v ≤ 10006
theorem isValue_yes (s : Int) (w : World) (h : isVal s) :
    Calls Tryz.prog 53 #[.int .i64 s] w fun e w' => e = .returned (.bool true) ∧ w = w' := by
  obtain ⟨h0, h1⟩ := h
  have h2 : s < 10007 := by omega
  go_enter Tryz.func53, Tryz.ntmps53
  go_wp2
  go_ret
  exact ⟨rfl, rfl⟩
theorem isValue_no (s : Int) (w : World) (h : ¬ isVal s) :
    Calls Tryz.prog 53 #[.int .i64 s] w fun e w' => e = .returned (.bool false) ∧ w = w' := by
  unfold isVal at h
  by_cases h0 : 0 ≤ s
  · have h2 : ¬ s < 10007 := by omega
    clear h
    go_enter Tryz.func53, Tryz.ntmps53
    go_wp2
    go_ret
    exact ⟨rfl, rfl⟩
  · clear h
    go_enter Tryz.func53, Tryz.ntmps53
    go_wp2
    go_ret
    exact ⟨rfl, rfl⟩
theorem l2Value_yes (s : Int) (w : World) (h : isVal s) :
    Calls Tryz.prog 127 #[.int .i64 s] w fun e w' => e = .returned (.bool true) ∧ w = w' := by
  obtain ⟨h0, h1⟩ := h
  go_enter Tryz.func127, Tryz.ntmps127
  go_wp2_with (go_at_call 82; refine (l1In_yes _ _ _ _ h0 h1).mono ?_; rintro e w' ⟨rfl, rfl⟩)
  go_ret
  exact ⟨rfl, rfl⟩
theorem l2Value_no (s : Int) (w : World) (h : ¬ isVal s) :
    Calls Tryz.prog 127 #[.int .i64 s] w fun e w' => e = .returned (.bool false) ∧ w = w' := by
  unfold isVal at h
  have h' : s < 0 ∨ 10006 < s := by omega
  clear h
  go_enter Tryz.func127, Tryz.ntmps127
  go_wp2_with (go_at_call 82; refine (l1In_no _ _ _ _ h').mono ?_; rintro e w' ⟨rfl, rfl⟩)
  go_ret
  exact ⟨rfl, rfl⟩
def isTm (t : Int) : Prop := 0 ≤ t ∧ t ≤ 100000
instance (a : Int) : Decidable (isTm a) := inferInstanceAs (Decidable (_ ∧ _))
instance (a : Int) : Decidable (isVal a) := inferInstanceAs (Decidable (_ ∧ _))
theorem isTime_yes (s : Int) (w : World) (h : isTm s) :
    Calls Tryz.prog 243 #[.int .i64 s] w fun e w' => e = .returned (.bool true) ∧ w = w' := by
  obtain ⟨h0, h1⟩ := h
  go_enter Tryz.func243, Tryz.ntmps243
  go_wp2
  go_ret
  exact ⟨rfl, rfl⟩
theorem isTime_no (s : Int) (w : World) (h : ¬ isTm s) :
    Calls Tryz.prog 243 #[.int .i64 s] w fun e w' => e = .returned (.bool false) ∧ w = w' := by
  unfold isTm at h
  by_cases h0 : 0 ≤ s
  · have h2 : ¬ s ≤ 100000 := by omega
    clear h
    go_enter Tryz.func243, Tryz.ntmps243
    go_wp2
    go_ret
    exact ⟨rfl, rfl⟩
  · clear h
    go_enter Tryz.func243, Tryz.ntmps243
    go_wp2
    go_ret
    exact ⟨rfl, rfl⟩
theorem l3Time_yes (s : Int) (w : World) (h : isTm s) :
    Calls Tryz.prog 167 #[.int .i64 s] w fun e w' => e = .returned (.bool true) ∧ w = w' := by
  obtain ⟨h0, h1⟩ := h
  go_enter Tryz.func167, Tryz.ntmps167
  go_wp2_with (go_at_call 82; refine (l1In_yes _ _ _ _ h0 h1).mono ?_; rintro e w' ⟨rfl, rfl⟩)
  go_ret
  exact ⟨rfl, rfl⟩
theorem l3Time_no (s : Int) (w : World) (h : ¬ isTm s) :
    Calls Tryz.prog 167 #[.int .i64 s] w fun e w' => e = .returned (.bool false) ∧ w = w' := by
  unfold isTm at h
  have h' : s < 0 ∨ 100000 < s := by omega
  clear h
  go_enter Tryz.func167, Tryz.ntmps167
  go_wp2_with (go_at_call 82; refine (l1In_no _ _ _ _ h').mono ?_; rintro e w' ⟨rfl, rfl⟩)
  go_ret
  exact ⟨rfl, rfl⟩
open Go.ChangeShapes Go.WideShapes Go.ChangeAt Go.RowKit Go.Maps
abbrev Tri := Int × Int × Int
def isCell (t v : Int) : Prop := isTm t ∧ isVal v
instance (t v : Int) : Decidable (isCell t v) := inferInstanceAs (Decidable (_ ∧ _))
theorem specCellOk_calls (t v : Int) (w : World) :
    Calls Tryz.prog 161 #[.agg (cA t v)] w fun e w' => e = .returned (.bool (decide (isCell t v))) ∧ Below w.heap.size w w' := by
  by_cases ht : isTm t
  · have D := Lib.hid (fun w => l3Time_yes t w ht)
    by_cases hv : isVal v
    · have E := Lib.hid (fun w => l2Value_yes v w hv)
      rw [decide_eq_true (show isCell t v from ⟨ht, hv⟩)]
      clear ht hv
      go_enter Tryz.func161, Tryz.ntmps161
      go_wp2_with fail
      refine (D.out _).mono ?_; rintro e w' ⟨rfl, rfl⟩
      go_wp2_with fail
      refine (E.out _).mono ?_; rintro e w' ⟨rfl, rfl⟩
      go_wp2_with fail
      go_ret
      exact ⟨rfl, (Below.refl _ _).alloc (Nat.le_refl _) _⟩
    · have E := Lib.hid (fun w => l2Value_no v w hv)
      rw [decide_eq_false (show ¬ isCell t v from fun h => hv h.2)]
      clear ht hv
      go_enter Tryz.func161, Tryz.ntmps161
      go_wp2_with fail
      refine (D.out _).mono ?_; rintro e w' ⟨rfl, rfl⟩
      go_wp2_with fail
      refine (E.out _).mono ?_; rintro e w' ⟨rfl, rfl⟩
      go_wp2_with fail
      go_ret
      exact ⟨rfl, (Below.refl _ _).alloc (Nat.le_refl _) _⟩
  · have D := Lib.hid (fun w => l3Time_no t w ht)
    rw [decide_eq_false (show ¬ isCell t v from fun h => ht h.1)]
    clear ht
    go_enter Tryz.func161, Tryz.ntmps161
    go_wp2_with fail
    refine (D.out _).mono ?_; rintro e w' ⟨rfl, rfl⟩
    go_wp2_with fail
    go_ret
    exact ⟨rfl, (Below.refl _ _).alloc (Nat.le_refl _) _⟩
abbrev Ce := Int × Int
theorem run_copy_rowS {P : Program} (w : World) (dT sT ty elem : TypeId) (g o dLen dCap : Nat) (a : Addr) (sLen sCap : Nat) (cur : Array Value) (t : TypeId) (cs : List Value) (s : Nat)
    (hu : P.underlying dT = some (.slice elem)) (hs : (P.info? elem).map (·.size) = some s) (hg : w.heap[g]? = some (.cells cur t (0, 0))) (hn : cs.length = Nat.min sLen dLen * s)
    (hsrc : ∀ j v, cs[j]? = some v → w.cell? (a.add j) = some v) (hfit : o + cs.length ≤ cur.size) (h1 : ∀ v ∈ cs, v.oneCell' = true) :
    (Builtin.copy_ #[dT, sT] ty #[.slice (some ⟨g, o, none⟩) dLen dCap, .slice (some a) sLen sCap]).run P w = .ok (goInt (Nat.min sLen dLen)) (w.setRow g (cur.toList.take o ++ cs ++ cur.toList.drop (o + cs.length)).toArray) := by
  have hl := run_loadCells_list (P := P) w a cs hsrc
  have hst := run_storeCells_at P g o t cs 0 cur w hg (by simpa using hfit) h1
  cases hq : P.info? elem with
  | none => simp [hq] at hs
  | some i =>
    have hi : i.size = s := by simpa [hq] using hs
    have hl' : (loadCells a (Nat.min sLen dLen * s)).run P w = .ok cs.toArray w := by rw [← hn]; exact hl
    simp [Builtin.copy_, run_underlying hu, Builtin.lenOf, Builtin.firstCells, sizeOf, typeInfo, hq, hi, hl', hst]
def upTo (l : List Int) (k : Nat) : Int := (l.take k).foldl (· + ·) 0
theorem upTo_zero (l : List Int) : upTo l 0 = 0 := by simp [upTo]
theorem upTo_succ (l : List Int) {k : Nat} (h : k < l.length) : upTo l (k + 1) = upTo l k + l.getD k 0 := by
  unfold upTo
  rw [List.take_succ_eq_append_getElem h, List.foldl_append, List.getD_eq_getElem?_getD, List.getElem?_eq_getElem h]
  rfl
def CountsOk (l : List Int) : Prop := ∀ i, i < l.length → 1 ≤ l.getD i 0 ∧ l.getD i 0 ≤ 8
def planOk (key : Int) (l : List Int) : Prop := (1 ≤ key ∧ key ≤ 1000000) ∧ (1 ≤ l.length ∧ l.length ≤ 4) ∧ CountsOk l ∧ upTo l l.length ≤ 24
theorem upTo_bd {l : List Int} (h : CountsOk l) {k : Nat} (hk : k ≤ l.length) : 0 ≤ upTo l k ∧ upTo l k ≤ 8 * k := by
  induction k with
  | zero => rw [upTo_zero]; omega
  | succ k ih =>
    have h1 := ih (by omega)
    have h2 := h k (by omega)
    rw [upTo_succ l (by omega)]
    omega
open Classical in
noncomputable def sectorsOf (key : Int) (l : List Int) : Int := if planOk key l then upTo l l.length else -1
open Classical in
noncomputable def firstOf (key : Int) (l : List Int) (r : Int) : Int := if planOk key l ∧ 0 ≤ r ∧ r < l.length then upTo l r.toNat else -1
theorem firstOf_yes {key : Int} {l : List Int} {r : Nat} (h : planOk key l) (hr : r < l.length) : firstOf key l r = upTo l r := by
  unfold firstOf; rw [if_pos ⟨h, by omega, by omega⟩]; simp
theorem firstOf_no {key : Int} {l : List Int} {r : Int} (h : ¬ (planOk key l ∧ 0 ≤ r ∧ r < l.length)) : firstOf key l r = -1 := by unfold firstOf; rw [if_neg h]
theorem sectorsOf_yes {key : Int} {l : List Int} (h : planOk key l) : sectorsOf key l = upTo l l.length := by unfold sectorsOf; rw [if_pos h]
theorem sectorsOf_no {key : Int} {l : List Int} (h : ¬ planOk key l) : sectorsOf key l = -1 := by unfold sectorsOf; rw [if_neg h]
end Go.Proofs.YteoijmejhdocdaaGreatDoor.Mx

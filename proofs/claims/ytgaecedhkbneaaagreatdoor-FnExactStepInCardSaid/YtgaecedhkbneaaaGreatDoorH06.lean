import Derived.Test.YtgaecedhkbneaaaGreatDoorH05
import Derived.Maps.AppendAt
import Derived.Deep.Upon
import Derived.Deep.AppendLies
import Derived.Great.BuildSlice
import Derived.Test.YtgaecedhkbneaaaGreatDoorH04
import Derived.Laws.CopyOwn
import Derived.Laws.MakeOwn
import Derived.Test.YtgaecedhkbneaaaGreatDoorH03
import Derived.Deep.RegionHeld3
import Derived.Deep.CutRange
namespace Go.Proofs.YtgaecedhkbneaaaGreatDoor.Mx
open Go.ChangeShapes Go.WideShapes Go.ChangeAt Go.RowKit
set_option linter.unusedVariables false
section
variable {α : Type} [Inhabited α] {enc : α → List Value} {n : Nat} {T : TypeId} {w w' : World} {B B' base base' : Nat} {A : Option Addr} {L M : List α} {v : Value}
def Sls (enc : α → List Value) (n : Nat) (w : World) (B : Nat) (A : Option Addr) (L : List α) : Prop :=
  ∀ i, i < L.length → ∃ b off, A = some ⟨b, off, none⟩ ∧ b < B ∧ ∀ j, j < n → w.cell? ⟨b, off + i * n + j, none⟩ = (enc (L.getD i default))[j]?
theorem Sls.below (h : Sls enc n w B A L) (hb : Below B' w w') (hB : B ≤ B') : Sls enc n w' B A L := by
  intro i hi
  obtain ⟨b, off, rfl, hlt, hc⟩ := h i hi
  exact ⟨b, off, rfl, hlt, fun j hj => (hb.cell (p := ⟨b, off + i * n + j, none⟩) (Nat.lt_of_lt_of_le hlt hB)).trans (hc j hj)⟩
theorem Sls.more (h : Sls enc n w B A L) (hB : B ≤ B') : Sls enc n w B' A L := by
  intro i hi
  obtain ⟨b, off, e, hlt, c⟩ := h i hi
  exact ⟨b, off, e, by omega, c⟩
theorem Sls.grow (h : Sls enc n w w.heap.size A L) (hb : Below w.heap.size w w') : Sls enc n w' w'.heap.size A L := (h.below hb (Nat.le_refl _)).more hb.size
theorem Sls.nil : Sls enc n w B A [] := fun i hi => by simp at hi
def flatS (enc : α → List Value) (L : List α) : List Value := L.flatMap enc
omit [Inhabited α] in
theorem flatS_length (hn : ∀ x, (enc x).length = n) : (flatS enc L).length = L.length * n := by
  induction L with
  | nil => simp [flatS]
  | cons x L ih =>
    have : flatS enc (x :: L) = enc x ++ flatS enc L := by simp [flatS]
    rw [this, List.length_append, hn, ih, List.length_cons, Nat.succ_mul]; omega
theorem flatS_get (hn : ∀ x, (enc x).length = n) (i j : Nat) (hi : i < L.length) (hj : j < n) : (flatS enc L)[i * n + j]? = (enc (L.getD i default))[j]? := by
  induction L generalizing i with
  | nil => simp at hi
  | cons x L ih =>
    have hc : flatS enc (x :: L) = enc x ++ flatS enc L := by simp [flatS]
    rw [hc]
    cases i with
    | zero => rw [List.getElem?_append_left (by rw [hn]; omega)]; simp
    | succ i =>
      rw [List.getElem?_append_right (by rw [hn, Nat.succ_mul]; omega), hn, show (i + 1) * n + j - n = i * n + j by rw [Nat.succ_mul]; omega, ih i (by simpa using hi)]
      simp
def SRow (enc : α → List Value) (n : Nat) (T : TypeId) (w : World) (base : Nat) (v : Value) (L : List α) : Prop := w.ownsRow base T n v L.length (flatS enc L)
omit [Inhabited α] in
theorem SRow.kept {r : Option Nat} (h : SRow enc n T w base v L) (hg : w.grownBy w' r) (hb : v.ownBlock = none ∨ v.ownBlock ≠ r) : SRow enc n T w' base v L := World.ownsRow.kept h hg hb
omit [Inhabited α] in
theorem SRow.lt (h : SRow enc n T w base v L) {g : Nat} (hg : v.ownBlock = some g) : base ≤ g ∧ g < w.heap.size := World.ownsRow.lt h g hg
omit [Inhabited α] in
theorem SRow.grown {g : Nat} (h : SRow enc n T w base v L) (hg : w.grownBy w' (some g)) (hb : g < base) : SRow enc n T w' base v L := by
  refine h.kept hg ?_
  cases e : v.ownBlock with
  | none => exact .inl rfl
  | some k => exact .inr (by intro e2; injection e2 with e2; have := (h.lt e).1; omega)
omit [Inhabited α] in
theorem SRow.made (w : World) (h : base ≤ w.heap.size) : SRow enc n T (w.alloc (.cells #[] T)) base (.slice (some ⟨w.heap.size, 0, none⟩) 0 0) ([] : List α) := World.ownsRow_made w #[] 0 h (by simp [maxLen]) (by simp)
omit [Inhabited α] in
theorem SRow.mono (h : SRow enc n T w base v L) (hb : base' ≤ base) : SRow enc n T w base' v L := by
  refine ⟨h.1, ?_⟩
  rcases h.2 with h0 | ⟨g, cap, cur, e, hg, r⟩
  · exact .inl h0
  · exact .inr ⟨g, cap, cur, e, Nat.le_trans hb hg, r⟩
theorem SRow.reads (hn : ∀ x, (enc x).length = n) (h : SRow enc n T w base v L) : ∃ A c, v = .slice A L.length c ∧ Sls enc n w w.heap.size A L ∧ L.length ≤ c := by
  rcases h.2 with ⟨rfl, h0⟩ | ⟨g, cap, cur, rfl, hb, hg, hnc, hcm, hcs, htake⟩
  · have : L = [] := List.length_eq_zero_iff.1 h0
    subst this
    exact ⟨none, 0, rfl, Sls.nil, Nat.le_refl _⟩
  · refine ⟨_, cap, rfl, fun i hi => ⟨g, 0, rfl, (Array.getElem?_eq_some_iff.1 hg).1, fun j hj => ?_⟩, hnc⟩
    have hlt : i * n + j < L.length * n := by
      have : (i + 1) * n ≤ L.length * n := Nat.mul_le_mul_right n hi
      rw [Nat.succ_mul] at this; omega
    rw [Nat.zero_add, World.ownsRow.cellAt h (i * n + j) hlt, flatS_get hn i j hi hj]
theorem Sls.news (hn : ∀ x, (enc x).length = n) (hp : 0 < n) (h : Sls enc n w B A L) : ∀ j u, (flatS enc L)[j]? = some u → ∃ ad, A = some ad ∧ w.cell? (ad.add j) = some u := by
  intro j u hu
  have hj : j < L.length * n := by have := (List.getElem?_eq_some_iff.1 hu).1; rwa [flatS_length hn] at this
  have hi : j / n < L.length := (Nat.div_lt_iff_lt_mul hp).2 hj
  obtain ⟨b, off, rfl, _, hc⟩ := h (j / n) hi
  refine ⟨_, rfl, ?_⟩
  have hm := Nat.mod_lt j hp
  have he : j / n * n + j % n = j := by rw [Nat.mul_comm]; exact Nat.div_add_mod j n
  rw [Addr.add_mid, show off + j = off + j / n * n + j % n by omega, hc _ hm, ← flatS_get hn _ _ hi hm, he, hu]
end
theorem run_append_row {P : Program} {w : World} {base : Nat} {t ty e : TypeId} {size bytes n : Nat} {z : Value} {v : Value} {xs : List Value} {A : Option Addr} {m c : Nat} {news : List Value}
    (ht : P.underlying t = some (.slice e)) (hi : (P.info? e).map (fun i => (i.zero, i.size, i.bytes)) = some (some z, size, bytes)) (hzs : z.cells.size = size) (hsz : 0 < size)
    (hown : w.ownsRow base e size v n xs) (hl : news.length = m * size) (hnews : ∀ j u, news[j]? = some u → ∃ ad, A = some ad ∧ w.cell? (ad.add j) = some u) (h1 : ∀ u ∈ news, u.oneCell' = true)
    (h63 : n + m ≤ maxLen) (hbytes : (n + m) * bytes ≤ 140737488355328) (hbase : base ≤ w.heap.size) :
    ∃ v' w', (Builtin.append_ #[t, t] ty #[v, .slice A m c]).run P w = .ok v' w' ∧ w'.ownsRow base e size v' (n + m) (xs ++ news) ∧ w.grownBy w' v.ownBlock ∧ (v'.ownBlock = v.ownBlock ∨ v'.ownBlock = some w.heap.size) := by
  obtain ⟨i, hi0, hi1⟩ := Option.map_eq_some_iff.1 hi
  simp only [Prod.mk.injEq] at hi1
  obtain ⟨hz, hsize, hby⟩ := hi1
  cases A with
  | some ad =>
    obtain ⟨v', w', hr, h2, h3, _, h5⟩ := run_append_own_at (P := P) w base t ty e i z size bytes ht hi0 hz hsize hby hzs hsz v n xs hown ad m c news hl (fun j u hu => by obtain ⟨ad', e, hc⟩ := hnews j u hu; injection e with e; rw [e]; exact hc) h1 h63 hbytes hbase
    exact ⟨v', w', hr, h2, h3, h5⟩
  | none =>
    have hnil : news = [] := by
      cases news with
      | nil => rfl
      | cons u r => obtain ⟨ad, e, _⟩ := hnews 0 u rfl; cases e
    subst hnil
    have hm0 : m = 0 := by
      rcases Nat.eq_zero_or_pos m with h | h
      · exact h
      · have := Nat.mul_pos h hsz; simp at hl; omega
    subst hm0
    obtain ⟨bse, cp, hv, hle⟩ : ∃ bse cp, v = .slice bse n cp ∧ n ≤ cp := by
      rcases hown.2 with ⟨rfl, rfl⟩ | ⟨g, cap, cur, rfl, _, _, hnc, _⟩
      · exact ⟨none, 0, rfl, Nat.le_refl _⟩
      · exact ⟨_, cap, rfl, hnc⟩
    refine ⟨v, w, ?_, by simpa using hown, gb_refl _ _, .inl rfl⟩
    rw [hv]
    exact run_append_nothing (P := P) w t t ty e i ht hi0 bse n cp hle _ (Src.ofNil w ht c)
theorem wp_append_row {P : Program} {w : World} {o : Oper} {a : Act} {K : Act → World → Prop} {Q : Exit → Act → World → Prop} (s x : Operand) (t : TypeId)
    (ho : o.op = .call { callee := .builtin .append, args := #[s, x], argTypes := #[t, t] }) (base : Nat) (e : TypeId) (size bytes n : Nat) (z v : Value) (xs : List Value) (A : Option Addr) (m c : Nat) (news : List Value)
    (ht : P.underlying t = some (.slice e)) (hi : (P.info? e).map (fun i => (i.zero, i.size, i.bytes)) = some (some z, size, bytes)) (hzs : z.cells.size = size) (hsz : 0 < size)
    (hs : a.eval s = v) (hown : w.ownsRow base e size v n xs) (hx : a.eval x = .slice A m c) (hl : news.length = m * size) (hnews : ∀ j u, news[j]? = some u → ∃ ad, A = some ad ∧ w.cell? (ad.add j) = some u) (h1 : ∀ u ∈ news, u.oneCell' = true)
    (h63 : n + m ≤ maxLen) (hbytes : (n + m) * bytes ≤ 140737488355328) (hbase : base ≤ w.heap.size)
    (h : ∀ v' w', w'.ownsRow base e size v' (n + m) (xs ++ news) → w.grownBy w' v.ownBlock → (v'.ownBlock = v.ownBlock ∨ v'.ownBlock = some w.heap.size) → K (a.put o.dst v') w') : o.wp P a w K Q := by
  obtain ⟨v', w', hr, h2, h3, h4⟩ := run_append_row (ty := o.type) (c := c) ht hi hzs hsz hown hl hnews h1 h63 hbytes hbase
  unfold Oper.wp execOp
  simp only [ho, resolve, invoke, builtin, Sem.run_bind, Sem.run_pure, Result.andThen_ok, List.map_toArray, List.map_cons, List.map_nil, hs, hx, hr]
  exact h v' w' h2 h3 h4
theorem wpList_append_row {P : Program} {w : World} {ops : Array Oper} {rest : List Oper} {o : Oper} {a : Act} {Q : Exit → Act → World → Prop} (hgd : o.guard = none) (s x : Operand) (t : TypeId)
    (ho : o.op = .call { callee := .builtin .append, args := #[s, x], argTypes := #[t, t] }) (base : Nat) (e : TypeId) (size bytes n : Nat) (z v : Value) (xs : List Value) (A : Option Addr) (m c : Nat) (news : List Value)
    (ht : P.underlying t = some (.slice e)) (hi : (P.info? e).map (fun i => (i.zero, i.size, i.bytes)) = some (some z, size, bytes)) (hzs : z.cells.size = size) (hsz : 0 < size)
    (hs : a.eval s = v) (hown : w.ownsRow base e size v n xs) (hx : a.eval x = .slice A m c) (hl : news.length = m * size) (hnews : ∀ j u, news[j]? = some u → ∃ ad, A = some ad ∧ w.cell? (ad.add j) = some u) (h1 : ∀ u ∈ news, u.oneCell' = true)
    (h63 : n + m ≤ maxLen) (hbytes : (n + m) * bytes ≤ 140737488355328) (hbase : base ≤ w.heap.size)
    (h : ∀ v' w', w'.ownsRow base e size v' (n + m) (xs ++ news) → w.grownBy w' v.ownBlock → (v'.ownBlock = v.ownBlock ∨ v'.ownBlock = some w.heap.size) → wpList P ops Q rest (a.put o.dst v') w') : wpList P ops Q (o :: rest) a w :=
  wpList_plain hgd fun _ hK => wp_append_row s x t ho base e size bytes n z v xs A m c news ht hi hzs hsz hs hown hx hl hnews h1 h63 hbytes hbase fun v' w' h2 h3 h4 => hK _ _ (h v' w' h2 h3 h4)
theorem steps_append {P : Program} {ρ : Operand → Value} {w : World} {o : Oper} {K : Value → World → Prop} (s x : Operand) (t : TypeId)
    (ho : o.op = .call { callee := .builtin .append, args := #[s, x], argTypes := #[t, t] }) (base : Nat) (e : TypeId) (size bytes n : Nat) (z v : Value) (xs : List Value) (A : Option Addr) (m c : Nat) (news : List Value)
    (ht : P.underlying t = some (.slice e)) (hi : (P.info? e).map (fun i => (i.zero, i.size, i.bytes)) = some (some z, size, bytes)) (hzs : z.cells.size = size) (hsz : 0 < size)
    (hs : ρ s = v) (hown : w.ownsRow base e size v n xs) (hx : ρ x = .slice A m c) (hl : news.length = m * size) (hnews : ∀ j u, news[j]? = some u → ∃ ad, A = some ad ∧ w.cell? (ad.add j) = some u) (h1 : ∀ u ∈ news, u.oneCell' = true)
    (h63 : n + m ≤ maxLen) (hbytes : (n + m) * bytes ≤ 140737488355328) (hbase : base ≤ w.heap.size)
    (h : ∀ v' w', w'.ownsRow base e size v' (n + m) (xs ++ news) → w.grownBy w' v.ownBlock → (v'.ownBlock = v.ownBlock ∨ v'.ownBlock = some w.heap.size) → K v' w') : stepsTo P ((execOp ρ o).run P w) K := by
  obtain ⟨v', w', hr, h2, h3, h4⟩ := run_append_row (ty := o.type) (c := c) ht hi hzs hsz hown hl hnews h1 h63 hbytes hbase
  have e2 : (execOp ρ o).run P w = .ok (.value v') w' := by
    unfold execOp
    simp only [ho, resolve, invoke, builtin, Sem.run_bind, Sem.run_pure, Result.andThen_ok, List.map_toArray, List.map_cons, List.map_nil, hs, hx, hr]
  rw [e2]
  exact h v' w' h2 h3 h4
theorem steps_build {P : Program} {ρ : Operand → Value} {w : World} {o : Oper} {K : Value → World → Prop} (t e : TypeId) (len size bytes : Nat) (z : Value) (parts : Array (Nat × Operand)) (cells : Array Value) (ho : o.op = .buildSlice t len parts)
    (ht : P.underlying t = some (.slice e)) (hi : (P.info? e).map (fun i => (i.zero, i.size, i.bytes)) = some (some z, size, bytes)) (hs : ¬ len * size > 2 ^ 24) (hp : ¬ len * size = 0)
    (hf : Instr.fill (fun i => some (i * size, size)) ((Array.range (len * size)).map (z.cells[· % z.cells.size]!)) (parts.map fun (i, x) => (i, ρ x)).toList = some cells)
    (h : K (.slice (some ⟨w.heap.size, 0, none⟩) len len) (w.alloc (.cells cells e))) : stepsTo P ((execOp ρ o).run P w) K := by
  obtain ⟨i, hi0, hi1⟩ := Option.map_eq_some_iff.1 hi
  simp only [Prod.mk.injEq] at hi1
  obtain ⟨hz, rfl, rfl⟩ := hi1
  have e2 : (execOp ρ o).run P w = .ok (.value (.slice (some ⟨w.heap.size, 0, none⟩) len len)) (w.alloc (.cells cells e)) := by
    unfold execOp
    simp only [ho, Sem.run_bind, run_buildSlice w t e len _ cells i z ht hi0 hz hs hp hf, Result.andThen_ok, Sem.run_pure]
  rw [e2]
  exact h
theorem steps_buildNil {P : Program} {ρ : Operand → Value} {w : World} {o : Oper} {K : Value → World → Prop} (t e : TypeId) (ho : o.op = .buildSlice t 0 #[])
    (ht : P.underlying t = some (.slice e)) (hi : (P.info? e).isSome = true)
    (h : K (.slice (some ⟨w.heap.size, 0, none⟩) 0 0) (w.alloc (.cells #[] e))) : stepsTo P ((execOp ρ o).run P w) K := by
  obtain ⟨i, hi0⟩ := Option.isSome_iff_exists.1 hi
  have e2 : (execOp ρ o).run P w = .ok (.value (.slice (some ⟨w.heap.size, 0, none⟩) 0 0)) (w.alloc (.cells #[] e)) := by
    unfold execOp
    simp [ho, Instr.buildSlice, run_underlying ht, sizeOf, typeInfo, hi0, newRow, newObj, Instr.fill, go_sem]
    rfl
  rw [e2]
  exact h
theorem run_copy_rowS {P : Program} (w : World) (dT sT ty elem : TypeId) (g o dLen dCap : Nat) (a : Addr) (sLen sCap : Nat) (cur : Array Value) (t : TypeId) (cs : List Value) (s : Nat)
    (hu : P.underlying dT = some (.slice elem)) (hs : (P.info? elem).map (·.size) = some s) (hg : w.heap[g]? = some (.cells cur t (0, 0))) (hn : cs.length = Nat.min sLen dLen * s)
    (hsrc : ∀ j v, cs[j]? = some v → w.cell? (a.add j) = some v) (hfit : o + cs.length ≤ cur.size) (h1 : ∀ v ∈ cs, v.oneCell' = true) :
    (Builtin.copy_ #[dT, sT] ty #[.slice (some ⟨g, o, none⟩) dLen dCap, .slice (some a) sLen sCap]).run P w = .ok (goInt (Nat.min sLen dLen)) (w.setRow g (cur.toList.take o ++ cs ++ cur.toList.drop (o + cs.length)).toArray) := by
  have hl := run_loadCells_list (P := P) w a cs hsrc
  have hst := run_storeCells_at P g o t cs 0 cur w hg (by simpa using hfit) h1
  cases hq : P.info? elem with
  | none => simp [hq] at hs
  | some i =>
    have hi : i.size = s := by simpa [hq] using hs
    have hl' : (loadCells a (Nat.min sLen dLen * s)).run P w = .ok cs.toArray w := by rw [← hn]; exact hl
    simp [Builtin.copy_, run_underlying hu, Builtin.lenOf, Builtin.firstCells, sizeOf, typeInfo, hq, hi, hl', hst]
def MarkC (w : World) (g n : Nat) (m : Int) : Prop := ∀ j, j < n → w.cell? ⟨g, j * 2, none⟩ = some (.int .i64 (m + 2 * j)) ∧ w.cell? ⟨g, j * 2 + 1, none⟩ = some (.int .i64 (m + 2 * j + 1))
theorem MarkC.block {w u : World} {g n : Nat} {m : Int} (h : MarkC w g n m) (hb : u.heap[g]? = w.heap[g]?) : MarkC u g n m := by
  have f : ∀ o, u.cell? ⟨g, o, none⟩ = w.cell? ⟨g, o, none⟩ := fun o => by simp [World.cell?, hb]
  exact fun j hj => ⟨(f _).trans (h j hj).1, (f _).trans (h j hj).2⟩
theorem rowIs_block {w u : World} {g : Nat} {t : TypeId} {n : Nat} {f : Nat → Value} (h : w.rowIs g t n f) (hb : u.heap[g]? = w.heap[g]?) : u.rowIs g t n f := by
  obtain ⟨c, h1, h2, h3⟩ := h
  exact ⟨c, hb.trans h1, h2, h3⟩
set_option maxHeartbeats 2000000 in
theorem toPlanO_calls (key : Int) (A : Option Addr) (l : List Int) (cap : Nat) (w : World) (hn : l.length ≤ 1048576) (hA : Ints w .i64 w.heap.size A l) :
    Calls Tryz.prog 74 #[.agg #[.int .i64 key, .slice A l.length cap]] w fun e w' => ∃ g, e = .returned (.agg #[.int .i64 key, .slice (some ⟨g, 0, none⟩) l.length l.length]) ∧ w.heap.size ≤ g ∧ w'.rowIs g 2 l.length (fun i => .int .i64 (l.getD i 0)) ∧ Below w.heap.size w w' := by
  have T := Lib.hid (fun w hA => toInt64S_calls A l cap w hn hA)
  have k0 := (((Kept.refl w).new 43 #[.int .i64 key, .slice A l.length cap]).new 26 #[.int .i64 0, .slice none 0 0]).new 26 #[.int .i64 key, .slice none 0 0]
  rw [show ((w.alloc (.cells #[.int .i64 key, .slice A l.length cap] 43)).alloc (.cells #[.int .i64 0, .slice none 0 0] 26)).heap.size = w.heap.size + 1 + 1 by simp, show (w.alloc (.cells #[.int .i64 key, .slice A l.length cap] 43)).heap.size = w.heap.size + 1 by simp] at k0
  have HA := Lib.hid ((hA.below k0.1 (Nat.le_refl _)).more k0.1.size)
  have K0 := Lib.hid k0
  clear hA k0
  go_enter Tryz.func74, Tryz.ntmps74
  go_wp2_with fail
  refine (T.out _ HA.out).mono ?_; rintro e w1 ⟨rfl, b1, h1⟩
  obtain ⟨g, hge⟩ : ∃ g, g = (((w.alloc (.cells #[.int .i64 key, .slice A l.length cap] 43)).alloc (.cells #[.int .i64 0, .slice none 0 0] 26)).alloc (.cells #[.int .i64 key, .slice none 0 0] 26)).heap.size := ⟨_, rfl⟩
  rw [← hge] at h1 ⊢
  have hg : w.heap.size + 1 + 1 < g := by simp at hge; omega
  have k1 := K0.out.below b1
  clear hge
  have c20 : w1.cell? ⟨w.heap.size + 1 + 1, 0, none⟩ = some (.int .i64 key) := k1.cell (List.mem_cons_self ..) 0
  have c21 : w1.cell? ⟨w.heap.size + 1 + 1, 1, none⟩ = some (.slice none 0 0) := k1.cell (List.mem_cons_self ..) 1
  have c10 : w1.cell? ⟨w.heap.size + 1, 0, none⟩ = some (.int .i64 0) := k1.tail.cell (List.mem_cons_self ..) 0
  have c11 : w1.cell? ⟨w.heap.size + 1, 1, none⟩ = some (.slice none 0 0) := k1.tail.cell (List.mem_cons_self ..) 1
  have f2 := k1.frozen (List.mem_cons_self ..) 1
  have f10 := k1.tail.frozen (List.mem_cons_self ..) 0
  have f11 := k1.tail.frozen (List.mem_cons_self ..) 1
  have K1 := Lib.hid k1
  have H1 := Lib.hid h1
  have G1 := Lib.hid hg
  clear b1 h1 k1 hg
  go_wp2_with fail
  have k2 := K1.out.set (by intro x hx; simp at hx; rcases hx with rfl | rfl <;> simp <;> omega) 1 (.slice (some ⟨g, 0, none⟩) l.length l.length)
  have k3 := (k2.tail.set (by intro x hx; simp at hx; subst hx; simp) 0 (.int .i64 key)).set (by intro x hx; simp at hx; subst hx; simp) 1 (.slice (some ⟨g, 0, none⟩) l.length l.length)
  have h3 := rowIs_block H1.out (show (((w1.setCell ⟨w.heap.size + 1 + 1, 1, none⟩ (.slice (some ⟨g, 0, none⟩) l.length l.length)).setCell ⟨w.heap.size + 1, 0, none⟩ (.int .i64 key)).setCell ⟨w.heap.size + 1, 1, none⟩ (.slice (some ⟨g, 0, none⟩) l.length l.length)).heap[g]? = w1.heap[g]? from by
    have hg := G1.out
    rw [Below.heap_setCell _ _ _ _ (by simp; omega), Below.heap_setCell _ _ _ _ (by simp; omega), Below.heap_setCell _ _ _ _ (by simp; omega)])
  generalize World.setCell _ _ _ = w4 at k3 h3 ⊢
  have d0 : w4.cell? ⟨w.heap.size + 1, 0, none⟩ = some (.int .i64 key) := k3.cell (List.mem_cons_self ..) 0
  have d1 : w4.cell? ⟨w.heap.size + 1, 1, none⟩ = some (.slice (some ⟨g, 0, none⟩) l.length l.length) := k3.cell (List.mem_cons_self ..) 1
  exact bodyPost_ret (v := .agg #[.int .i64 key, .slice (some ⟨g, 0, none⟩) l.length l.length]) (by simp [results, Tryz.results74, go_sem, d0, d1]) rfl ⟨g, rfl, by have := G1.out; omega, h3, k3.1⟩
end Go.Proofs.YtgaecedhkbneaaaGreatDoor.Mx

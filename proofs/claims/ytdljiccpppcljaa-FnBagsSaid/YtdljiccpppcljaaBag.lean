/- A BAG IN PLAIN WORDS: 'Bag w b n L': block b is a map of at most n entries from triples to how often each lies in the list L; what a look, 'm[k] += d' and 'delete' make of it. -/
import Derived.Test.YtdljiccpppcljaaTripB
import Derived.WideKeyEntry
import Derived.BigRegion
namespace Go.Proofs.Ytdljiccpppcljaa.Mx
open Go.ChangeShapes Go.WideShapes Go.ChangeAt Go.RowKit Go.Maps Go.ChangeMaps
set_option linter.unusedVariables false

theorem triKeyLaw : WideMaps.KeyLaw Try.prog 32 := deep_law_laid laid (m := 3) (by omega) triRow triKeyAt triWide
theorem intZero (w : World) : (zeroValue 3).run Try.prog w = .ok (.int .i64 0) w := by kernel_rfl

/-! ### The datum -/
def BagD (D : DataW Unit) (L : List Tri) : Prop :=
  (∀ a t v, I64 a → I64 t → I64 v → Maps.has D (tkey a t v) = decide ((a, t, v) ∈ L) ∧ D.atKey (tkey a t v) (.lit (.int .i64 0)) = .lit (.int .i64 (L.count (a, t, v) : Nat))) ∧
  ∃ ks : List Tri, ks.Nodup ∧ ks.length = Maps.size D ∧ ∀ x, x ∈ ks ↔ x ∈ L

theorem mem_of_count {L L' : List Tri} {y : Tri} (h : L'.count y = L.count y) : y ∈ L' ↔ y ∈ L := by
  rw [← List.count_pos_iff, ← List.count_pos_iff, h]

theorem BagD.put {D : DataW Unit} {L L' : List Tri} {a t v : Int} {c : Nat} (h : BagD D L) (hT : Maps.Tidy D) (ha : I64 a) (ht : I64 t) (hv : I64 v) (hx : (a, t, v) ∈ L') (hc : L'.count (a, t, v) = c) (ho : ∀ y, y ≠ (a, t, v) → L'.count y = L.count y) :
    BagD (D.put (tkey a t v) (.lit (.int .i64 c))) L' := by
  obtain ⟨h1, ks, h2, h3, h4⟩ := h
  refine ⟨fun x y z hx' hy hz => ?_, ?_⟩
  · by_cases e : x = a ∧ y = t ∧ z = v
    · obtain ⟨rfl, rfl, rfl⟩ := e
      rw [has_put_same hT.isMap (tkey_lit _ _ _), atKey_put_same hT.isMap (tkey_lit _ _ _), hc]
      exact ⟨(decide_eq_true hx).symm, rfl⟩
    · have hne : tkey x y z ≠ tkey a t v := fun e' => e (tkey_inj hx' hy hz ha ht hv e')
      have hne2 : (x, y, z) ≠ (a, t, v) := fun e' => e (by simpa using e')
      rw [has_put_other hne, atKey_put_other hne, ho _ hne2]
      exact ⟨(h1 x y z hx' hy hz).1.trans (decide_eq_decide.2 (mem_of_count (ho _ hne2)).symm), (h1 x y z hx' hy hz).2⟩
  · have hs := size_put (k := tkey a t v) hT (.lit (.int .i64 c))
    rw [(h1 a t v ha ht hv).1] at hs
    by_cases hin : (a, t, v) ∈ L
    · refine ⟨ks, h2, by rw [hs, if_pos (decide_eq_true hin)]; exact h3, fun y => ?_⟩
      by_cases e : y = (a, t, v)
      · subst e; exact ⟨fun _ => hx, fun _ => (h4 _).2 hin⟩
      · rw [h4, mem_of_count (ho y e)]
    · refine ⟨(a, t, v) :: ks, List.nodup_cons.2 ⟨fun hm => hin ((h4 _).1 hm), h2⟩, by rw [hs, if_neg (by simp [hin])]; simp [h3], fun y => ?_⟩
      by_cases e : y = (a, t, v)
      · subst e; simp [hx]
      · rw [List.mem_cons, h4, mem_of_count (ho y e)]; simp [e]

theorem BagD.del {D : DataW Unit} {L L' : List Tri} {a t v : Int} (h : BagD D L) (hT : Maps.Tidy D) (ha : I64 a) (ht : I64 t) (hv : I64 v) (hin : (a, t, v) ∈ L) (hx : (a, t, v) ∉ L') (ho : ∀ y, y ≠ (a, t, v) → L'.count y = L.count y) :
    BagD (D.del (tkey a t v)) L' := by
  obtain ⟨h1, ks, h2, h3, h4⟩ := h
  refine ⟨fun x y z hx' hy hz => ?_, ?_⟩
  · by_cases e : x = a ∧ y = t ∧ z = v
    · obtain ⟨rfl, rfl, rfl⟩ := e
      rw [has_del_same, atKey_del_same, List.count_eq_zero.2 hx]
      exact ⟨(decide_eq_false hx).symm, rfl⟩
    · have hne : tkey x y z ≠ tkey a t v := fun e' => e (tkey_inj hx' hy hz ha ht hv e')
      have hne2 : (x, y, z) ≠ (a, t, v) := fun e' => e (by simpa using e')
      rw [has_del_other hne, atKey_del_other hne, ho _ hne2]
      exact ⟨(h1 x y z hx' hy hz).1.trans (decide_eq_decide.2 (mem_of_count (ho _ hne2)).symm), (h1 x y z hx' hy hz).2⟩
  · have hs := size_del (k := tkey a t v) hT
    rw [(h1 a t v ha ht hv).1, if_pos (decide_eq_true hin)] at hs
    have hk : (a, t, v) ∈ ks := (h4 _).2 hin
    refine ⟨ks.erase (a, t, v), h2.erase _, by rw [List.length_erase_of_mem hk]; omega, fun y => ?_⟩
    rw [h2.mem_erase_iff, h4]
    by_cases e : y = (a, t, v)
    · subst e; simp [hx]
    · rw [mem_of_count (ho y e)]; simp [e]

theorem BagD.empty {D : DataW Unit} {L : List Tri} (h : BagD D L) : Maps.size D = 0 ↔ L = [] := by
  obtain ⟨_, ks, _, h3, h4⟩ := h
  rw [← h3, List.length_eq_zero_iff, List.eq_nil_iff_forall_not_mem, List.eq_nil_iff_forall_not_mem]
  exact ⟨fun h x hx => h x ((h4 x).2 hx), fun h x hx => h x ((h4 x).1 hx)⟩

/-! ### The map -/
def Bag (w : World) (b n : Nat) (L : List Tri) : Prop :=
  ∃ D : DataW Unit, w.ownsMap Try.prog 32 (plainElem Try.prog 3) b n D ∧ BagD D L
theorem Bag.lt {w : World} {b n : Nat} {L : List Tri} (h : Bag w b n L) : b < w.heap.size := let ⟨_, h, _⟩ := h; h.lt
theorem Bag.mono {w : World} {b n n' : Nat} {L : List Tri} (h : Bag w b n L) (hn : n ≤ n') : Bag w b n' L := let ⟨D, h, k⟩ := h; ⟨D, h.mono hn, k⟩
theorem Bag.below {w w' : World} {b n B : Nat} {L : List Tri} (h : Bag w b n L) (hb : Below B w w') (hB : b < B) : Bag w' b n L := by
  obtain ⟨D, ⟨es, clock, hh, r⟩, k⟩ := h
  exact ⟨D, ⟨es, clock, (hb.block b hB).trans hh, r⟩, k⟩
theorem Bag.alloc {w : World} {b n : Nat} {L : List Tri} (h : Bag w b n L) (o : Obj) : Bag (w.alloc o) b n L := let ⟨D, h, k⟩ := h; ⟨D, h.alloc o, k⟩
theorem Bag.drewN {w : World} {b n : Nat} {L : List Tri} (h : Bag w b n L) (m : Nat) : Bag (w.drewN m) b n L := h
theorem Bag.drew {w : World} {b n : Nat} {L : List Tri} (h : Bag w b n L) : Bag w.drew b n L := h
theorem Bag.made (w : World) : Bag (w.alloc (.map #[] 0)) w.heap.size 0 [] :=
  ⟨.map [], World.ownsMap_made _ _ _ _, fun a t v _ _ _ => ⟨rfl, rfl⟩, [], List.nodup_nil, rfl, fun x => Iff.rfl⟩

theorem wf_count {n : Nat} (h : n < maxLen) : (Lit.int .i64 (n : Int)).wf = true := WalkArith.wf_i64 (by unfold maxLen at h; omega)

theorem Bag.look {w : World} {b n : Nat} {L : List Tri} (hown : Bag w b n L) {i j k : Int} (hi : I64 i) (hj : I64 j) (hk : I64 k) :
    (Instr.lookup 55 (.map (some b)) (.agg #[.int .i64 i, .int .i64 j, .int .i64 k]) false).run Try.prog w = .ok (.int .i64 (L.count (i, j, k) : Nat)) w := by
  obtain ⟨D, h, hD⟩ := hown
  obtain ⟨c, hr, hc, _⟩ := h.lookup_int triLaw Try.underlying55 Try.underlying3 (intZero _) (tkey_of hi hj hk)
  rw [(hD.1 i j k hi hj hk).2] at hc
  simp only [DataW.lit.injEq, Lit.int.injEq, true_and] at hc
  rw [hc]; exact hr

/-- Where the entry of a key is asked for, the world is then as though its value had been stored again. -/
theorem entry_is_update {P : Program} {k e t : TypeId} {w w1 : World} {b : Nat} {es : Array MapEntry} {clock : Nat} {R : Value → Option (DataW Unit × List MemPlace)} (K : WideMaps.KeyLaw P k) (ht : P.underlying t = some (.map k e)) {z : Value} (hz : ∀ u : World, (zeroValue e).run P u = .ok z u)
    (hb : w.heap[b]? = some (.map es clock)) (F : WideElems.Fit P k R es clock) {key v0 st : Value} {kl : Lit} (hkey : keyOf P k key = some kl)
    (h : (Instr.mapEntry t (.map (some b)) key).run P w = .ok (.tuple #[v0, st]) w1) : (Instr.mapUpdate t (.map (some b)) key v0).run P w = .ok () w1 := by
  rcases K.find w hkey es.toList F.keys with ⟨h1, _⟩ | ⟨j, e0, h1, h2, h3⟩
  · simp [Instr.mapEntry, run_underlying ht, MapKept.run_getObj_map hb, K.check w false hkey, h1, hz, MapKept.run_setObj_map _ hb, Result.andThen] at h
    obtain ⟨⟨rfl, -⟩, rfl⟩ := h
    simp [Instr.mapUpdate, run_underlying ht, MapKept.run_getObj_map hb, K.check w false hkey, h1, MapKept.run_setObj_map _ hb, Result.andThen]
  · have hj : es[j]? = some e0 := by simpa using h2
    simp [Instr.mapEntry, run_underlying ht, MapKept.run_getObj_map hb, K.check w false hkey, h1, hj, h3, K.stays w hkey, MapKept.run_setObj_map _ hb, Result.andThen] at h
    obtain ⟨⟨rfl, -⟩, rfl⟩ := h
    have hm : es.modify j (fun x => { x with key := key, val := e0.val }) = es.modify j (fun x => { x with key := key }) := by
      apply Array.ext_getElem?
      intro i
      rw [Array.getElem?_modify, Array.getElem?_modify]
      by_cases e : j = i
      · subst e; simp [hj]
      · simp [e]
    simp [Instr.mapUpdate, run_underlying ht, MapKept.run_getObj_map hb, K.check w false hkey, h1, hj, h3, K.stays w hkey, MapKept.run_setObj_map _ hb, Result.andThen, hm]
theorem entry_is_look {P : Program} {k e t : TypeId} {w w1 : World} {b : Nat} {es : Array MapEntry} {clock : Nat} {R : Value → Option (DataW Unit × List MemPlace)} (K : WideMaps.KeyLaw P k) (ht : P.underlying t = some (.map k e)) {z : Value} (hz : ∀ u : World, (zeroValue e).run P u = .ok z u)
    (hb : w.heap[b]? = some (.map es clock)) (F : WideElems.Fit P k R es clock) {key v0 st : Value} {kl : Lit} (hkey : keyOf P k key = some kl)
    (h : (Instr.mapEntry t (.map (some b)) key).run P w = .ok (.tuple #[v0, st]) w1) : (Instr.lookup t (.map (some b)) key false).run P w = .ok v0 w := by
  rcases K.find w hkey es.toList F.keys with ⟨h1, _⟩ | ⟨j, e0, h1, h2, h3⟩
  · simp [Instr.mapEntry, run_underlying ht, MapKept.run_getObj_map hb, K.check w false hkey, h1, hz, MapKept.run_setObj_map _ hb, Result.andThen] at h
    obtain ⟨⟨rfl, -⟩, -⟩ := h
    simp [Instr.lookup, run_underlying ht, MapKept.run_getObj_map hb, K.check w _ hkey, h1, hz, Result.andThen]
  · have hj : es[j]? = some e0 := by simpa using h2
    simp [Instr.mapEntry, run_underlying ht, MapKept.run_getObj_map hb, K.check w false hkey, h1, hj, h3, K.stays w hkey, MapKept.run_setObj_map _ hb, Result.andThen] at h
    obtain ⟨⟨rfl, -⟩, -⟩ := h
    simp [Instr.lookup, run_underlying ht, MapKept.run_getObj_map hb, K.check w _ hkey, h1, Result.andThen]

/-- WHAT 'm[k] += d' WANTS: the entry is asked for, then the sum is stored; the key may be read before or behind. -/
def EntryRuns (w : World) (b n : Nat) (L' : List Tri) (a t v : Int) (c : Nat) (c' : Int) : Prop :=
  ∃ (st : Nat) (w1 w2 : World),
    (Instr.lookup 55 (.map (some b)) (.agg #[.int .i64 a, .int .i64 t, .int .i64 v]) false).run Try.prog w = .ok (.int .i64 c) w ∧
    (Instr.mapEntry 55 (.map (some b)) (.agg #[.int .i64 a, .int .i64 t, .int .i64 v])).run Try.prog w = .ok (.tuple #[.int .i64 c, .int .i64 st]) w1 ∧
    (Instr.lookup 55 (.map (some b)) (.agg #[.int .i64 a, .int .i64 t, .int .i64 v]) false).run Try.prog w1 = .ok (.int .i64 c) w1 ∧
    (Instr.entryStore 55 (.map (some b)) (.int .i64 st) (.int .i64 c')).run Try.prog w1 = .ok () w2 ∧
    w.grownBy w1 (some b) ∧ w.grownBy w2 (some b) ∧ Bag w2 b (n + 1) L'

theorem Bag.entry {w : World} {b n : Nat} {L L' : List Tri} (hown : Bag w b n L) (hn : n < maxLen) {a t v : Int} (ha : I64 a) (ht : I64 t) (hv : I64 v) {c' : Nat} (hc' : c' < maxLen) (hcl : L.count (a, t, v) < maxLen) (hx : (a, t, v) ∈ L') (hc : L'.count (a, t, v) = c') (ho : ∀ y, y ≠ (a, t, v) → L'.count y = L.count y) :
    EntryRuns w b n L' a t v (L.count (a, t, v)) c' := by
  have hlook := hown.look ha ht hv
  obtain ⟨D, h, hD⟩ := hown
  have hk := tkey_of ha ht hv
  obtain ⟨w2, hr2, ho2, hg2⟩ := h.update triLaw Try.underlying55 hn hk (plainElem_int (H := Unit) Try.underlying3 (wf_count hc'))
  have hT := h.tidy triLaw
  have hold := h
  obtain ⟨es, clock, hb, F, hs, hDe⟩ := h
  obtain ⟨v0, st, es1, clock1, hrun, hv0, hstore⟩ := WideElems.entry_then_store triKeyLaw Try.underlying55 intZero hb F hk
  obtain ⟨es', clock', hs1, hs2⟩ := hstore (setBlock w b (.map es1 clock1)) (.int .i64 c') (heap_setBlock_same hb _)
  have hup := entry_is_update triKeyLaw Try.underlying55 intZero hb F hk hrun
  have e2 : setBlock w b (.map es' clock') = w2 := by rw [hs2] at hr2; simpa using hr2
  rw [show setBlock (setBlock w b (.map es1 clock1)) b (.map es' clock') = w2 by rw [← e2]; simp [setBlock]] at hs1
  have hv0 := entry_is_look triKeyLaw Try.underlying55 intZero hb F hk hrun
  rw [hlook] at hv0
  obtain rfl : v0 = .int .i64 (L.count (a, t, v) : Nat) := by simpa using hv0.symm
  have hcn : L.count (a, t, v) < maxLen := hcl
  obtain ⟨w1, hr1, ho1, hg1⟩ := hold.update triLaw Try.underlying55 hn hk (plainElem_int (H := Unit) Try.underlying3 (wf_count hcn))
  have e1 : setBlock w b (.map es1 clock1) = w1 := by rw [hup] at hr1; simpa using hr1
  rw [e1] at hrun hs1
  obtain ⟨c1, hl1, hat1, _⟩ := ho1.lookup_int triLaw Try.underlying55 Try.underlying3 (intZero _) hk
  rw [atKey_put_same hT.isMap (tkey_lit _ _ _)] at hat1
  simp only [DataW.lit.injEq, Lit.int.injEq, true_and] at hat1
  subst hat1
  exact ⟨st, w1, w2, hlook, hrun, hl1, hs1, hg1, hg2, _, ho2, hD.put hT ha ht hv hx hc ho⟩
end Go.Proofs.Ytdljiccpppcljaa.Mx

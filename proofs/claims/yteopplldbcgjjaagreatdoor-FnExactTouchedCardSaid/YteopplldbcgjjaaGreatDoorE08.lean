import Derived.Test.YteopplldbcgjjaaGreatDoorE04
import Derived.StillTail
import Derived.Maps.OwnSet
import Derived.DeepKeys4
import Derived.MapViews
import Derived.Deep.RegionWith
import Derived.Test.YteopplldbcgjjaaGreatDoorE07
import Derived.Test.YteopplldbcgjjaaGreatDoorE06
import Derived.Deep.CutRange
namespace Go.Proofs.YteopplldbcgjjaaGreatDoor.Mx
open Go.RowKit
set_option linter.unusedVariables false
section
variable {P : Program} {md : Region.Mode} {ops : Array Oper} {C : World → Prop}
def headIn (P : Program) (md : Region.Mode) (ops : Array Oper) (C : World → Prop) (n : Nat) (done : Array Bool → Act → Prop) : Nat → Array Bool → Act → Prop
  | 0, up, a => done up a
  | f + 1, up, a => Region.ready md ops up ≠ [] ∧ ∀ j ∈ Region.ready md ops up, j < n ∧ qOp P ops C j (headIn P md ops C n done f (up.setIfInBounds j true)) a
theorem headIn.all {n g : Nat} {done : Array Bool → Act → Prop} {Q : Exit → Act → World → Prop} (hd : ∀ up a w, C w → done up a → wpAny P md ops Q g up a w) (f : Nat) :
    ∀ up a w, C w → headIn P md ops C n done f up a → wpAny P md ops Q (f + g) up a w := by
  induction f with
  | zero => intro up a w hw h; rw [Nat.zero_add]; exact hd up a w hw h
  | succ f ih =>
    intro up a w hw h
    rw [Nat.add_right_comm]
    exact ⟨fun h0 => absurd h0 h.1, fun j hj => wpOp_of_qOp hw (fun a' w' hw' h' => ih _ a' w' hw' h') (h.2 j hj).2⟩
theorem headIn.first {n i : Nat} {oi : Oper} {v : Value} {done : Array Bool → Act → Prop} (hi : ops[i]? = some oi) (hsel : ∀ (j : Nat) (o : Oper) cs b, ops[j]? = some o → o.op ≠ .select cs b)
    (hs : Region.sinkB md ops n = true) (hc : Region.chainB md ops n = true) (hn : n < ops.size) (hin : i < n) (hdone : ∀ up a, done up a → ∀ j ∈ Region.ready md ops up, n ≤ j) (f : Nat) :
    ∀ up a, HeadInv md ops n up → (∀ j oj, ops[j]? = some oj → j ≠ i → up.getD j true = false → (∀ e ∈ oj.after, Region.binds md e = true → e.on ≠ i) → oi.apart ops oj = true) →
      i ∈ Region.ready md ops up → YieldsIn P ops C oi v a → headIn P md ops C n done f (up.setIfInBounds i true) (a.put oi.dst v) → headIn P md ops C n done (f + 1) up a := by
  induction f with
  | zero =>
    intro up a inv _ hr hy H
    refine ⟨fun h0 => (by rw [h0] at hr; cases hr), fun j hj => ?_⟩
    have hji : j = i := by
      refine Classical.byContradiction fun hne => ?_
      exact tail_waits hs hc hn inv _ i rfl hin (mem_ready.1 hr).1 j (hdone _ _ H j (ready_mono hj hne)) hj
    subst hji
    exact ⟨hin, hy.qOp hi H⟩
  | succ f ih =>
    intro up a inv hfree hr hy H
    refine ⟨fun h0 => (by rw [h0] at hr; cases hr), fun j hj => ?_⟩
    by_cases hji : j = i
    · subst hji; exact ⟨hin, hy.qOp hi H⟩
    · obtain ⟨hjn, hj1⟩ := H.2 j (ready_mono hj hji)
      obtain ⟨hjun, oj, hoj, hall⟩ := mem_ready.1 hj
      have hnot : ∀ e ∈ oj.after, Region.binds md e = true → e.on ≠ i := by
        intro e he hb heq
        have h2 := hall e he hb
        rw [heq, getD_both (mem_ready.1 hr).1] at h2
        cases h2
      have hboth := qOp_put hoj (hfree j oj hoj hji hjun hnot) (fun cs b => hsel i oi cs b hi) (fun cs b => hsel j oj cs b hoj) hy hj1
      refine ⟨hjn, qOp_mono (fun a' h3 => ih _ a' (inv.set hj hjn) ?_ (ready_mono hr (Ne.symm hji)) h3.1 ?_) hboth⟩
      · intro k ok hk hki hun hno
        refine hfree k ok hk hki ?_ hno
        by_cases hjk : j = k
        · subst hjk; exact hjun
        · rwa [getD_set_ne true hjk] at hun
      · rw [Array.setIfInBounds_comm _ _ hji]; exact h3.2
theorem headIn.lex {n g : Nat} {R : Act → Prop} (hsel : Region.noSelect ops = true) (hs : Region.sinkB md ops n = true) (hc : Region.chainB md ops n = true) (hn : n < ops.size) (l : List Oper) :
    ∀ (k : Nat) up a, (∀ j, j < l.length → l[j]? = ops[k + j]?) → k + l.length = n → HeadInv md ops n up → Region.lexHead md ops g l.length k up = true → wpQuiet P ops C R l a →
      headIn P md ops C n (fun up a => Region.seqB md ops g n up = true ∧ R a) l.length up a := by
  induction l with
  | nil =>
    intro k up a _ hk _ hB h
    obtain rfl : k = n := hk
    exact ⟨hB, h⟩
  | cons o l ih =>
    intro k up a hl hk inv hB h
    have h0 : ops[k]? = some o := by have := hl 0 (by simp); simpa using this.symm
    simp only [List.length_cons, Region.lexHead, Bool.and_eq_true, List.contains_iff_mem] at hB
    obtain ⟨⟨hr, hf⟩, hB'⟩ := hB
    have hkn : k < n := by simp only [List.length_cons] at hk; omega
    have hq : qOp P ops C k (wpQuiet P ops C R l) a := by unfold qOp; rw [h0]; exact h
    obtain ⟨v, hy, hrest⟩ := yieldsIn_of_qOp h0 hq
    refine headIn.first h0 (Region.noSelect_spec hsel) hs hc hn hkn (fun up' a' hd => seqB_ready hd.1) l.length up a inv (Region.free_spec h0 hf) hr hy ?_
    refine ih (k + 1) _ _ (fun j hj => ?_) (by simp only [List.length_cons] at hk; omega) (inv.set hr hkn) hB' hrest
    have := hl (j + 1) (by simp only [List.length_cons]; omega)
    rw [List.getElem?_cons_succ] at this
    rw [this, Nat.add_right_comm, Nat.add_assoc]
theorem wp_region_class_tail {id : Nat} {Q : Exit → Act → World → Prop} {a : Act} {w : World} {l : List Oper} (n : Nat) (hm : P.follows .mixedOrders = true) (hB : Region.lexTailB .any l.toArray n = true) (hC : C w.drew)
    (h : wpQuiet P l.toArray C (fun a' => ∀ w', C w' → wpList P l.toArray Q (l.drop n) a' w') (l.take n) a) : (Code.region id l.toArray true).wp P Q a w := by
  unfold Region.lexTailB at hB
  simp only [Bool.and_eq_true, decide_eq_true_eq] at hB
  obtain ⟨⟨⟨⟨hsel, hn⟩, hs⟩, hc⟩, hlex⟩ := hB
  have hnl : n < l.length := by simpa using hn
  have htl : (l.take n).length = n := by rw [List.length_take]; omega
  have hdl : (l.drop n).length = l.toArray.size - n := by simp
  have inv0 : HeadInv .any l.toArray n (Array.replicate l.toArray.size false) :=
    { size := by simp
      closed := fun j oj _ hl _ _ _ => by rw [getD_replicate_false] at hl; cases hl
      tail := fun t _ ht => getD_in (by simpa using ht) (getD_replicate_false _ _) }
  have H := headIn.lex (P := P) (C := C) (md := .any) (g := l.toArray.size - n) hsel hs hc hn (l.take n) 0 (Array.replicate l.toArray.size false) a (fun j hj => by
    rw [htl] at hj
    simp [List.getElem?_take_of_lt hj]) (by rw [htl]; omega) inv0 (by rw [htl]; exact hlex) h
  refine wp_region_any hm ?_
  have HA := headIn.all (Q := Q) (g := l.toArray.size - n) (fun up a' w' hw' hd => by
    have ht := wpAny_of_seq (P := P) (md := .any) (ops := l.toArray) (Q' := Q) (l.drop n) n up a' w' (fun j => by simp [List.getElem?_drop]) (by rw [hdl]; exact hd.1) (hd.2 w' hw')
    rwa [hdl] at ht) _ _ _ _ hC H
  rw [htl, show n + (l.toArray.size - n) = l.toArray.size by omega] at HA
  exact HA
end
end Go.Proofs.YteopplldbcgjjaaGreatDoor.Mx
namespace Go.Proofs.YteopplldbcgjjaaGreatDoor.Mx
open Go.ChangeShapes Go.WideShapes Go.ChangeAt Go.RowKit Go.Maps
set_option linter.unusedVariables false
theorem laid : laidOutB Tryz.prog = true := by kernel_rfl
theorem triRow : (85 : TypeId) < Tryz.prog.types.size := of_decide_eq_true (by kernel_rfl)
theorem triKeyAt : Tryz.prog.keyTypeAt 3 85 = true := by kernel_rfl
set_option maxRecDepth 20000 in
theorem triWide : (match Tryz.prog.underlying 85 with | some (.array _ _) | some (.struct _) => true | _ => false) = true := by kernel_rfl
set_option maxRecDepth 20000 in
theorem triLaw : Keyed Tryz.prog 85 := Keyed.of_law (deep_law_laid laid (m := 3) (by omega) triRow triKeyAt triWide)
theorem triType : Tryz.prog.keyType 85 = true := by kernel_rfl
theorem triCells : Tryz.prog.cellsOf 85 = 3 := by kernel_rfl
theorem i64Cells : Tryz.prog.cellsOf 2 = 1 := by kernel_rfl
theorem i64Zero (w : World) : (zeroValue 2).run Tryz.prog w = .ok (.int .i64 0) w := by kernel_rfl
def tkey (a t v : Int) : Lit := .string (keyBytes [.int .i64 a, .int .i64 t, .int .i64 v])
theorem tkey_of {a t v : Int} (ha : I64 a) (ht : I64 t) (hv : I64 v) : keyOf Tryz.prog 85 (.agg #[.int .i64 a, .int .i64 t, .int .i64 v]) = some (tkey a t v) := by
  obtain ⟨m, hm⟩ : ∃ m, m + 1 = Tryz.prog.types.size := ⟨Tryz.prog.types.size - 1, Nat.sub_add_cancel (Nat.lt_of_le_of_lt (Nat.zero_le _) triRow)⟩
  have w1 : (Lit.int .i64 a).wf = true := WalkArith.wf_i64 ⟨ha.1, ha.2⟩
  have w2 : (Lit.int .i64 t).wf = true := WalkArith.wf_i64 ⟨ht.1, ht.2⟩
  have w3 : (Lit.int .i64 v).wf = true := WalkArith.wf_i64 ⟨hv.1, hv.2⟩
  unfold keyOf
  simp only [Tryz.underlying85]
  rw [triType, ← hm]
  clear hm
  simp [triCells, i64Cells, Value.formed, Tryz.underlying85, Value.cells, Program.keyLits, Tryz.underlying2, w1, w2, w3, tkey]
theorem tkey_inj {a t v a' t' v' : Int} (ha : I64 a) (ht : I64 t) (hv : I64 v) (ha' : I64 a') (ht' : I64 t') (hv' : I64 v') (h : tkey a t v = tkey a' t' v') : a = a' ∧ t = t' ∧ v = v' := by
  have := triLaw.inj (tkey_of ha ht hv) (h ▸ tkey_of ha' ht' hv')
  simpa using this
theorem tkey_lit (a t v : Int) : WideAt.IsKeyLit (tkey a t v) := trivial
abbrev Held := Int → Int → Int → Option Int
def Held.none : Held := fun _ _ _ => Option.none
def Held.put (f : Held) (a t v d : Int) : Held := fun x y z => if x = a ∧ y = t ∧ z = v then some d else f x y z
def TMap (w : World) (b n : Nat) (f : Held) : Prop :=
  ∃ D : DataW Unit, w.ownsMap Tryz.prog 85 (plainElem Tryz.prog 2) b n D ∧
    ∀ a t v, I64 a → I64 t → I64 v → Maps.has D (tkey a t v) = (f a t v).isSome ∧ D.atKey (tkey a t v) (.lit (.int .i64 0)) = .lit (.int .i64 ((f a t v).getD 0))
theorem TMap.lt {w : World} {b n : Nat} {f : Held} (h : TMap w b n f) : b < w.heap.size := let ⟨_, h, _⟩ := h; h.lt
theorem TMap.mono {w : World} {b n n' : Nat} {f : Held} (h : TMap w b n f) (hn : n ≤ n') : TMap w b n' f := let ⟨D, h, k⟩ := h; ⟨D, h.mono hn, k⟩
theorem TMap.below {w w' : World} {b n B : Nat} {f : Held} (h : TMap w b n f) (hb : Below B w w') (hB : b < B) : TMap w' b n f := by
  obtain ⟨D, ⟨es, clock, hh, r⟩, k⟩ := h
  exact ⟨D, ⟨es, clock, (hb.block b hB).trans hh, r⟩, k⟩
theorem TMap.alloc {w : World} {b n : Nat} {f : Held} (h : TMap w b n f) (o : Obj) : TMap (w.alloc o) b n f := let ⟨D, h, k⟩ := h; ⟨D, h.alloc o, k⟩
theorem TMap.drew {w : World} {b n : Nat} {f : Held} (h : TMap w b n f) : TMap w.drew b n f := h
theorem TMap.made (w : World) : TMap (w.alloc (.map #[] 0)) w.heap.size 0 Held.none :=
  ⟨.map [], World.ownsMap_made _ _ _ _, fun a t v _ _ _ => ⟨rfl, rfl⟩⟩
theorem TMap.put {w : World} {b n : Nat} {f : Held} (hown : TMap w b n f) (hn : n < maxLen) {i j k d : Int} (hi : I64 i) (hj : I64 j) (hk : I64 k) (hd : I64 d) :
    ∃ w', (Instr.mapUpdate 193 (.map (some b)) (.agg #[.int .i64 i, .int .i64 j, .int .i64 k]) (.int .i64 d)).run Tryz.prog w = .ok () w' ∧ TMap w' b (n + 1) (f.put i j k d) ∧ w.grownBy w' (some b) := by
  obtain ⟨D, h, hD⟩ := hown
  obtain ⟨w', hr, h', hg'⟩ := h.update triLaw Tryz.underlying193 hn (tkey_of hi hj hk) (plainElem_int (H := Unit) Tryz.underlying2 (WalkArith.wf_i64 ⟨hd.1, hd.2⟩))
  refine ⟨w', hr, ⟨_, h', fun a t v ha ht hv => ?_⟩, hg'⟩
  by_cases e : a = i ∧ t = j ∧ v = k
  · obtain ⟨rfl, rfl, rfl⟩ := e
    rw [has_put_same h.isMap (tkey_lit _ _ _), atKey_put_same h.isMap (tkey_lit _ _ _)]
    simp [Held.put]
  · have hne : tkey a t v ≠ tkey i j k := fun e' => e (tkey_inj ha ht hv hi hj hk e')
    rw [has_put_other hne, atKey_put_other hne]
    simp only [Held.put, if_neg e]
    exact hD a t v ha ht hv
theorem TMap.look {w : World} {b n : Nat} {f : Held} (hown : TMap w b n f) {i j k : Int} (hi : I64 i) (hj : I64 j) (hk : I64 k) :
    (Instr.lookup 193 (.map (some b)) (.agg #[.int .i64 i, .int .i64 j, .int .i64 k]) false).run Tryz.prog w = .ok (.int .i64 ((f i j k).getD 0)) w := by
  obtain ⟨D, h, hD⟩ := hown
  obtain ⟨c, hr, hc, _⟩ := h.lookup_int triLaw Tryz.underlying193 Tryz.underlying2 (i64Zero _) (tkey_of hi hj hk)
  rw [(hD i j k hi hj hk).2] at hc
  simp only [DataW.lit.injEq, Lit.int.injEq, true_and] at hc
  rw [hc]; exact hr
section
variable (w : World) {ops : Array Oper} {rest : List Oper} {o : Oper} {a : Act} {Q : Exit → Act → World → Prop}
theorem tm_look_ok (hg : o.guard = none) (m x : Operand) (hop : o.op = Op.lookup 193 m x true) (b n : Nat) (f : Held) (hm : a.eval m = .map (some b)) (hown : TMap w b n f)
    (i j k : Int) (hx : a.eval x = .agg #[.int .i64 i, .int .i64 j, .int .i64 k]) (hi : I64 i) (hj : I64 j) (hk : I64 k)
    (hK : wpList Tryz.prog ops Q rest (a.put o.dst (.tuple #[.int .i64 ((f i j k).getD 0), .bool (f i j k).isSome])) w) : wpList Tryz.prog ops Q (o :: rest) a w := by
  obtain ⟨D, h, hD⟩ := hown
  refine wpList_lookup_own_ok_int _ hg m x 193 hop 85 2 .i64 triLaw Tryz.underlying193 Tryz.underlying2 (i64Zero _) b n D hm h _ _ hx (tkey_of hi hj hk) ?_
  intro c hc _
  rw [(hD i j k hi hj hk).2] at hc
  simp only [DataW.lit.injEq, Lit.int.injEq, true_and] at hc
  rw [← hc, (hD i j k hi hj hk).1]; exact hK
end
end Go.Proofs.YteopplldbcgjjaaGreatDoor.Mx
namespace Go.Proofs.YteopplldbcgjjaaGreatDoor.Mx
open Go.ChangeShapes Go.WideShapes Go.ChangeAt Go.RowKit Go.Maps
set_option linter.unusedVariables false
abbrev Tri := Int × Int × Int
def Tris (w : World) (B : Nat) (A : Option Addr) (L : List Tri) : Prop :=
  ∀ i, i < L.length → ∃ b off, A = some ⟨b, off, none⟩ ∧ b < B ∧ w.cell? ⟨b, off + i * 3, none⟩ = some (.int .i64 (L.getD i (0, 0, 0)).1) ∧ w.cell? ⟨b, off + i * 3 + 1, none⟩ = some (.int .i64 (L.getD i (0, 0, 0)).2.1) ∧ w.cell? ⟨b, off + i * 3 + 2, none⟩ = some (.int .i64 (L.getD i (0, 0, 0)).2.2)
def TriI (L : List Tri) : Prop := ∀ i, i < L.length → I64 (L.getD i (0, 0, 0)).1 ∧ I64 (L.getD i (0, 0, 0)).2.1 ∧ I64 (L.getD i (0, 0, 0)).2.2
theorem Tris.below {w w' : World} {B B' : Nat} {A : Option Addr} {L : List Tri} (h : Tris w B A L) (hb : Below B' w w') (hB : B ≤ B') : Tris w' B A L := by
  intro i hi
  obtain ⟨b, off, rfl, hlt, c0, c1, c2⟩ := h i hi
  have f := fun o => hb.cell (p := ⟨b, o, none⟩) (Nat.lt_of_lt_of_le hlt hB)
  exact ⟨b, off, rfl, hlt, (f _).trans c0, (f _).trans c1, (f _).trans c2⟩
noncomputable def tagsHeld (key : Int) (L : List Tri) : Held := fun a t v => if (a, t, v) ∈ L then some (tagOf key a t v) else Option.none
theorem tagsHeld_nil (key : Int) : tagsHeld key [] = Held.none := by funext a t v; simp [tagsHeld, Held.none]
theorem tagsHeld_snoc (key : Int) (L : List Tri) (a t v : Int) : tagsHeld key (L ++ [(a, t, v)]) = (tagsHeld key L).put a t v (tagOf key a t v) := by
  funext x y z
  by_cases e : x = a ∧ y = t ∧ z = v
  · obtain ⟨rfl, rfl, rfl⟩ := e; simp [tagsHeld, Held.put]
  · simp [tagsHeld, Held.put, e]
theorem tagsHeld_there (key : Int) (L : List Tri) (a t v : Int) (h : (a, t, v) ∈ L) : tagsHeld key (L ++ [(a, t, v)]) = tagsHeld key L := by
  funext x y z
  by_cases e : x = a ∧ y = t ∧ z = v
  · obtain ⟨rfl, rfl, rfl⟩ := e; simp [tagsHeld, h]
  · simp [tagsHeld, e]
theorem take_snoc {L : List Tri} {k : Nat} (h : k < L.length) : L.take (k + 1) = L.take k ++ [L.getD k (0, 0, 0)] := by
  rw [List.take_succ_eq_append_getElem h, List.getD_eq_getElem?_getD, List.getElem?_eq_getElem h]; rfl
theorem i64_tag (key a t v : Int) : I64 (tagOf key a t v) := by have := tagOf_bd key a t v; exact ⟨by omega, by omega⟩
set_option maxHeartbeats 1000000 in
theorem tagsOf_calls (key : Int) (A : Option Addr) (L : List Tri) (cap : Nat) (w : World) (hn : L.length < maxLen) (hA : Tris w w.heap.size A L) (hI : TriI L) :
    Calls Tryz.prog 143 #[.int .i64 key, .slice A L.length cap] w fun e w' => e = .returned (.map (some w.heap.size)) ∧ TMap w' w.heap.size L.length (tagsHeld key L) ∧ Below w.heap.size w w' := by
  have hm := hn
  unfold maxLen at hm
  have hmm := @run_makeMap Tryz.prog
  have HA := Lib.hid hA
  have HI := Lib.hid hI
  have HN := Lib.hid hn
  clear hA hI hn
  go_enter Tryz.func143, Tryz.ntmps143
  go_wp2_with fail
  clear hmm
  go_loopw [13] (fun i wr => ∃ k : Nat, k ≤ L.length ∧ i = .int .i64 k ∧ Below w.heap.size w wr ∧ TMap wr w.heap.size k (tagsHeld key (L.take k))) (fun i _ => L.length - (intOf i).toNat)
  case atStart => exact ⟨0, Nat.zero_le _, rfl, (Below.refl _ _).alloc (Nat.le_refl _) _, by rw [List.take_zero, tagsHeld_nil]; exact TMap.made w⟩
  case round =>
    obtain ⟨k, hk, rfl, hbel, hmap⟩ := hrel
    have HB := Lib.hid hbel
    have HM := Lib.hid hmap
    have hAr := HA.out.below hbel (Nat.le_refl _)
    clear hbel hmap
    by_cases hlt : k < L.length
    · obtain ⟨b, off, rfl, hb, c0, c1, c2⟩ := hAr k hlt
      have hlt' : (k : Int) < L.length := by omega
      have hk0 : (0 : Int) ≤ k := by omega
      have HS := Lib.hid (take_snoc hlt)
      have HT := Lib.hid (HI.out k hlt)
      clear hAr
      generalize L.getD k (0, 0, 0) = T at c0 c1 c2 HS HT
      obtain ⟨a, t, v⟩ := T
      simp only at c0 c1 c2
      have I1 := HT.out.1
      have I2 := HT.out.2.1
      have I3 := HT.out.2.2
      simp only at I1 I2 I3
      have J1 := Lib.hid I1
      have J2 := Lib.hid I2
      have J3 := Lib.hid I3
      clear I1 I2 I3 HT
      have HC := Lib.hid (fun w => tagged_calls key a t v w)
      have HK := Lib.hid (i64_tag key a t v)
      by_cases hin : (a, t, v) ∈ L.take k
      · have hs : (tagsHeld key (L.take k) a t v).isSome = true := by simp [tagsHeld, hin]
        have HQ := Lib.hid hs
        have HE := Lib.hid (tagsHeld_there key (L.take k) a t v hin)
        clear hs hin
        go_wp2_with (at_lookup; refine tm_look_ok _ rfl _ _ rfl w.heap.size k (tagsHeld key (L.take k)) rfl (HM.out.alloc _) a t v rfl J1.out J2.out J3.out ?_; rw [HQ.out])
        go_roundw
        case rel => exact ⟨k + 1, by omega, by go_num, HB.out.alloc HB.out.size _, by rw [HS.out, HE.out]; exact (HM.out.alloc _).mono (by omega)⟩
        case measure => simp [intOf]; omega
      · have hs : (tagsHeld key (L.take k) a t v).isSome = false := by simp [tagsHeld, hin]
        have HQ := Lib.hid hs
        have HE := Lib.hid (tagsHeld_snoc key (L.take k) a t v)
        clear hs hin
        generalize tagOf key a t v = d at HC HK HE
        go_wp2_with (at_lookup; refine tm_look_ok _ rfl _ _ rfl w.heap.size k (tagsHeld key (L.take k)) rfl (HM.out.alloc _) a t v rfl J1.out J2.out J3.out ?_; rw [HQ.out])
        go_region_with (go_at_call 154; refine (HC.out _).mono ?_; rintro e wx ⟨rfl, bx⟩; go_loud (have hx : TMap wx w.heap.size k (tagsHeld key (L.take k)) := TMap.below (TMap.drew (HM.out.alloc _)) bx (Nat.lt_of_lt_of_le HM.out.lt (by simp [World.drew]))); obtain ⟨w2, hrun, hm2, hg2⟩ := hx.put (by unfold maxLen; omega) J1.out J2.out J3.out HK.out; have hcx := (CellsAt.new wr 85 #[.int .i64 a, .int .i64 t, .int .i64 v]).drew.below bx (by simp [World.drew]); have d0 : wx.cell? ⟨wr.heap.size, 0, none⟩ = some (.int .i64 a) := hcx.cell 0; have d1 : wx.cell? ⟨wr.heap.size, 1, none⟩ = some (.int .i64 t) := hcx.cell 1; have d2 : wx.cell? ⟨wr.heap.size, 2, none⟩ = some (.int .i64 v) := hcx.cell 2; clear hcx; have BX := Lib.hid bx; have M2 := Lib.hid hm2; have G2 := Lib.hid hg2; clear bx hx hm2 hg2)
        all_goals
          go_wp2_with fail
          go_roundw
          case rel =>
            refine ⟨k + 1, by omega, by go_num, ?_, by rw [HS.out, HE.out]; exact M2.out⟩
            exact bgb ((HB.out.alloc HB.out.size _).drew.trans (BX.out.mono (show w.heap.size ≤ _ from Nat.le_trans HB.out.size (by simp [World.drew])))) G2.out (Nat.le_trans HB.out.size (Nat.le_trans (by simp [World.drew]) BX.out.size)) (Nat.le_refl _)
          case measure => simp [intOf]; omega
    · have hk' : k = L.length := by omega
      clear hAr
      have HQ := Lib.hid (show L.take k = L by rw [hk', List.take_length])
      have HK := Lib.hid hk'
      clear hk'
      go_wp2_with fail
      go_ret
      exact ⟨rfl, by have := HM.out; rw [HQ.out] at this; exact this.mono hk, HB.out⟩
def OneTag (key a t v : Int) (u : World) (e : Ending) (w' : World) : Prop :=
  ∃ m, e = .returned (.map (some m)) ∧ TMap w' m 1 (tagsHeld key [(a, t, v)]) ∧ Below u.heap.size u w'
theorem tagsOf_one (key a t v : Int) (g : Nat) (u : World) (hb : CellsAt u g 85 #[.int .i64 a, .int .i64 t, .int .i64 v]) (ha : I64 a) (ht : I64 t) (hv : I64 v) :
    Calls Tryz.prog 143 #[.int .i64 key, .slice (some ⟨g, 0, none⟩) 1 1] u (OneTag key a t v u) := by
  refine (tagsOf_calls key (some ⟨g, 0, none⟩) [(a, t, v)] 1 u (by simp [maxLen])
    (fun i hi => by
      obtain rfl : i = 0 := by simp at hi; omega
      exact ⟨_, 0, rfl, hb.lt, hb.cell 0, hb.cell 1, hb.cell 2⟩)
    (fun i hi => by
      obtain rfl : i = 0 := by simp at hi; omega
      exact ⟨ha, ht, hv⟩)).mono ?_
  rintro e w' ⟨rfl, hm, h⟩
  exact ⟨_, rfl, hm, h⟩
def OneTagB (key a t v : Int) (w : World) (e : Ending) (w' : World) : Prop :=
  ∃ m, e = .returned (.map (some m)) ∧ (Instr.lookup 193 (.map (some m)) (.agg #[.int .i64 a, .int .i64 t, .int .i64 v]) false).run Tryz.prog w' = .ok (.int .i64 (tagOf key a t v)) w' ∧
    w'.cell? ⟨w.heap.size, 0, none⟩ = some (.int .i64 a) ∧ w'.cell? ⟨w.heap.size, 1, none⟩ = some (.int .i64 t) ∧ w'.cell? ⟨w.heap.size, 2, none⟩ = some (.int .i64 v) ∧ Below w.heap.size w w'
theorem tagsOf_boxed (key a t v : Int) (w : World) (ha : I64 a) (ht : I64 t) (hv : I64 v) :
    Calls Tryz.prog 143 #[.int .i64 key, .slice (some ⟨w.heap.size + 1, 0, none⟩) 1 1]
      ((w.alloc (.cells #[.int .i64 a, .int .i64 t, .int .i64 v] 85)).alloc (.cells #[.int .i64 a, .int .i64 t, .int .i64 v] 85)).drew (OneTagB key a t v w) := by
  have h0 := CellsAt.new w 85 #[.int .i64 a, .int .i64 t, .int .i64 v]
  have h1 := CellsAt.new (w.alloc (.cells #[.int .i64 a, .int .i64 t, .int .i64 v] 85)) 85 #[.int .i64 a, .int .i64 t, .int .i64 v]
  rw [show (w.alloc (.cells #[.int .i64 a, .int .i64 t, .int .i64 v] 85)).heap.size = w.heap.size + 1 by simp] at h1
  refine (tagsOf_one key a t v _ _ h1.drew ha ht hv).mono ?_
  rintro e w' ⟨m, rfl, hm, hb⟩
  have hr := hm.look ha ht hv
  rw [show (tagsHeld key [(a, t, v)] a t v).getD 0 = tagOf key a t v by simp [tagsHeld]] at hr
  have h2 := (h0.below ((Below.refl (w.heap.size + 1) _).alloc (by simp) _) (by omega)).drew.below hb (by simp [World.drew]; omega)
  exact ⟨m, rfl, hr, h2.cell 0, h2.cell 1, h2.cell 2, ((((Below.refl w.heap.size w).alloc (Nat.le_refl _) _).alloc (by simp) _).drew).trans (hb.mono (by simp [World.drew]; omega))⟩
set_option maxHeartbeats 1000000 in
theorem tag_calls (key a t v : Int) (w : World) (ha : I64 a) (ht : I64 t) (hv : I64 v) :
    Calls Tryz.prog 114 #[.int .i64 key, .agg #[.int .i64 a, .int .i64 t, .int .i64 v]] w fun e w' => e = .returned (.int .i64 (tagOf key a t v)) ∧ Below w.heap.size w w' := by
  have HC := Lib.hid (tagsOf_boxed key a t v w ha ht hv)
  unfold OneTagB at HC
  generalize tagOf key a t v = d at HC
  clear ha ht hv
  go_enter Tryz.func114, Tryz.ntmps114
  go_wp2_with fail
  go_region_with (go_at_call 143; refine HC.out.mono ?_; rintro e wx ⟨m, rfl, hrun, d0, d1, d2, bx⟩; have BX := Lib.hid bx; clear bx)
  all_goals
    go_wp2_with fail
    go_ret
    exact ⟨rfl, BX.out⟩
end Go.Proofs.YteopplldbcgjjaaGreatDoor.Mx
namespace Go.Proofs.YteopplldbcgjjaaGreatDoor.Mx
open Go.ChangeShapes Go.WideShapes Go.ChangeAt Go.RowKit
set_option linter.unusedVariables false
theorem cellOf_i64 {key a t v : Int} (hk : I64 key) (ht : I64 t) : I64 (cellOf key a t v).1 ∧ I64 (cellOf key a t v).2 := by
  by_cases h : isKey key ∧ isTri a t v
  · rw [cellOf_yes h.1 h.2]
    refine ⟨h.2.i64.2.1, ?_⟩
    have hs := streamOf_nat h.1.1 h.1.2 h.2.1.1 h.2.2.1.1
    simp only []
    unfold hiddenOf
    rw [turnOf_yes hs h.2.2.2]
    unfold I64; omega
  · rw [cellOf_no h]; exact ⟨⟨by decide, by decide⟩, ⟨by decide, by decide⟩⟩
theorem triI64 (a t v : Int) : I64 (tripleIn a t v).1 ∧ I64 (tripleIn a t v).2.1 ∧ I64 (tripleIn a t v).2.2 := by
  by_cases h : isTri a t v
  · rw [tripleIn_yes h]; exact h.i64
  · rw [tripleIn_no h]; exact ⟨⟨by decide, by decide⟩, ⟨by decide, by decide⟩, ⟨by decide, by decide⟩⟩
theorem allocP (w : World) (o : Obj) : Below w.heap.size w (w.alloc o) := (Below.refl _ _).alloc (Nat.le_refl _) _
theorem gb_newP {w w' : World} {g b : Nat} (h : w.grownBy w' (some g)) (hb : w.heap.size ≤ b) (i : Nat) (u : Value) : w.grownBy (w'.setCell ⟨b, i, none⟩ u) (some g) :=
  ⟨h.os, h.tape, h.output, by simpa [World.setCell] using h.size, fun k hk hr => (Below.heap_setCell _ _ _ _ (by simp; omega)).trans (h.block k hk hr)⟩
theorem gb_belowP {a b c : World} {g : Nat} (h : a.grownBy b (some g)) (hb : Below a.heap.size b c) : a.grownBy c (some g) :=
  ⟨hb.os.trans h.os, hb.tape.trans h.tape, hb.output.trans h.output, Nat.le_trans h.size hb.size, fun k hk hr => (hb.block k hk).trans (h.block k hk hr)⟩
noncomputable def tagIn (key a x1 x2 : Int) : Int := tagOf key (tripleIn a x1 x2).1 (tripleIn a x1 x2).2.1 (tripleIn a x1 x2).2.2
set_option maxRecDepth 20000 in
set_option maxHeartbeats 4000000 in
theorem added_calls (s key a x1 x2 : Int) (w : World) (ha : I64 a) (h1 : I64 x1) (h2 : I64 x2) :
    Calls Tryz.prog 73 #[.int .i64 s, .int .i64 key, .int .i64 a, .agg #[.int .i64 x1, .int .i64 x2]] w fun e w' => e = .returned (.int .i64 (addOf s (tagIn key a x1 x2))) ∧ Below w.heap.size w w' := by
  unfold tagIn
  have CT := Lib.hid (fun u => ansTripleIn a x1 x2 u ha h1 h2)
  have h3 := triI64 a x1 x2
  generalize (tripleIn a x1 x2).1 = y1 at CT h3 ⊢
  generalize (tripleIn a x1 x2).2.1 = y2 at CT h3 ⊢
  generalize (tripleIn a x1 x2).2.2 = y3 at CT h3 ⊢
  have CG := Lib.hid (fun u => tag_calls key y1 y2 y3 u h3.1 h3.2.1 h3.2.2)
  generalize tagOf key y1 y2 y3 = g at CG ⊢
  have CA := Lib.hid (fun u => add_calls s g u)
  generalize addOf s g = z at CA ⊢
  have K0 := Lib.hid (show Kept w [(w.heap.size, 30, #[.int .i64 x1, .int .i64 x2])] _ from (Kept.refl w).put1 _ _ #[.int .i64 x1, .int .i64 x2] rfl)
  clear h3 ha h1 h2
  go_enter Tryz.func73, Tryz.ntmps73
  go_upto_region 1 with fail
  have hk0 := K0.out
  clear K0
  generalize World.alloc _ _ = w0 at hk0 ⊢
  obtain ⟨kc0, kf0, -⟩ := hk0.rd
  go_wp2_with fail
  refine (CT.out _).mono ?_; rintro e w2 ⟨rfl, b2⟩
  have hk2 := hk0.below b2
  clear hk0 b2 kc0 kf0 CT
  go_wp2_with fail
  refine (CG.out _).mono ?_; rintro e w3 ⟨rfl, b3⟩
  have hk3 := hk2.below b3
  clear hk2 b3 CG
  go_wp2_with fail
  refine (CA.out _).mono ?_; rintro e w4 ⟨rfl, rfl⟩
  go_wp2_with fail
  go_ret
  exact ⟨rfl, hk3.1⟩
set_option maxRecDepth 20000 in
set_option maxHeartbeats 4000000 in
theorem put_calls (key a c s v : Int) (p k : Nat) (cs : Array Value) (w : World) (hkey : I64 key) (ha : I64 a) (hc0 : 0 ≤ c) (hc1 : c ≤ 1000000) (hv : I64 v) (hp : CellsAt w p 28 cs) (e0 : cs[0]? = some (.int .i64 c)) (ek : cs[k]? = some (.int .i64 s)) (k0 : 0 < k) :
    Calls Tryz.prog 38 #[.pointer (some ⟨p, 0, none⟩), .pointer (some ⟨p, k, none⟩), .int .i64 key, .int .i64 a, .int .i64 v] w fun e w' =>
      e = .returned (.agg #[.int .i64 (cellOf key a (c + 1) v).1, .int .i64 (cellOf key a (c + 1) v).2]) ∧ w.grownBy w' (some p) ∧
      CellsAt w' p 28 ((cs.setIfInBounds 0 (.int .i64 (c + 1))).setIfInBounds k (.int .i64 (addOf s (tagIn key a (cellOf key a (c + 1) v).1 (cellOf key a (c + 1) v).2)))) := by
  have hi := cellOf_i64 (a := a) (t := c + 1) (v := v) hkey ⟨by omega, by omega⟩
  have CC := Lib.hid (fun u => ansCellOf key a (c + 1) v u hkey ha ⟨by omega, by omega⟩ hv)
  generalize (cellOf key a (c + 1) v).1 = x1 at CC hi ⊢
  generalize (cellOf key a (c + 1) v).2 = x2 at CC hi ⊢
  have CA := Lib.hid (fun u => added_calls s key a x1 x2 u ha hi.1 hi.2)
  generalize addOf s (tagIn key a x1 x2) = z at CA ⊢
  have hwc : IntKind.i64.wrap (c + 1) = c + 1 := IntWalk.i64_in _ (by omega)
  have lp := hp.lt
  have P0 := Lib.hid (show CellsAt (w.alloc (.cells #[.int .i64 0, .int .i64 0] 30)) p 28 cs from hp.below (allocP w _) lp)
  have G0 := Lib.hid (show w.grownBy (w.alloc (.cells #[.int .i64 0, .int .i64 0] 30)) (some p) from gb_alloc (gb_refl w (some p)) _)
  have R0 := Lib.hid (show CellsAt (w.alloc (.cells #[.int .i64 0, .int .i64 0] 30)) w.heap.size 30 #[.int .i64 0, .int .i64 0] from CellsAt.new w _ _)
  have E0 := Lib.hid e0
  have EK := Lib.hid ek
  have hne : ¬ p = w.heap.size := by omega
  have hne' : ¬ w.heap.size = p := by omega
  clear hp hi ha hkey hv e0 ek
  go_enter Tryz.func38, Tryz.ntmps38
  go_upto_region 1 with fail
  have hp0 := P0.out
  have hg0 := G0.out
  have hr0 := R0.out
  clear P0 G0 R0
  generalize World.alloc _ _ = w0 at hp0 hg0 hr0 ⊢
  have c0 : w0.cell? ⟨p, 0, none⟩ = some (.int .i64 c) := (hp0.cell 0).trans E0.out
  have f0 : ∀ i, w0.frozen? ⟨p, i, none⟩ = false := hp0.frozen
  go_upto_region 2 with fail
  have hp1 := hp0.set_ 0 (.int .i64 (c + 1))
  have hg1 := gb_set hg0 0 (.int .i64 (c + 1))
  have hr1 := hr0.grown (gb_set (gb_refl w0 (some p)) 0 (.int .i64 (c + 1))) (by intro e; injection e; omega)
  clear hp0 hg0 hr0 c0 f0
  generalize World.setCell _ _ _ = w1 at hp1 hg1 hr1 ⊢
  have hsz : cs.size ≠ 0 := by intro h; have := E0.out; rw [Array.getElem?_eq_none (by omega)] at this; cases this
  have c1 : w1.cell? ⟨p, 0, none⟩ = some (.int .i64 (c + 1)) := by rw [hp1.cell 0, Array.getElem?_setIfInBounds_self_of_lt (by omega)]
  go_wp2_with fail
  refine (CC.out _).mono ?_; rintro e w2 ⟨rfl, b2⟩
  have hp2 := hp1.below b2 hp1.lt
  have hr2 := hr1.below b2 hr1.lt
  have hg2 := gb_belowP hg1 (b2.mono hg1.size)
  have l2 : w.heap.size < w2.heap.size := hr2.lt
  clear hp1 hr1 hg1 b2 c1 CC
  have hp3 := hp2.below (allocP w2 (.cells #[.int .i64 x1, .int .i64 x2] 30)) hp2.lt
  have hr3 := hr2.below (allocP w2 (.cells #[.int .i64 x1, .int .i64 x2] 30)) hr2.lt
  have hg3 := gb_alloc hg2 (.cells #[.int .i64 x1, .int .i64 x2] 30)
  have hq3 := CellsAt.new w2 30 #[.int .i64 x1, .int .i64 x2]
  have hne2 : ¬ p = w2.heap.size := by omega
  have hne2' : ¬ w2.heap.size = p := by omega
  clear hp2 hr2 hg2
  go_upto_region 3 with fail
  generalize hw3 : World.alloc _ _ = w3 at hp3 hr3 hg3 hq3 ⊢
  clear hw3
  have CK : ∀ u, Below w3.heap.size w3 u → u.cell? ⟨p, k, none⟩ = some (.int .i64 s) ∧ (∀ i, u.frozen? ⟨p, i, none⟩ = false) ∧ (∀ i, u.cell? ⟨w2.heap.size, i, none⟩ = #[.int .i64 x1, .int .i64 x2][i]?) := fun u hu =>
    ⟨((hp3.below hu hp3.lt).cell k).trans (by rw [Array.getElem?_setIfInBounds_ne (by omega)]; exact EK.out), (hp3.below hu hp3.lt).frozen, (hq3.below hu hq3.lt).cell⟩
  have HK := Lib.hid CK
  have HP := Lib.hid hp3
  have HR := Lib.hid hr3
  have HG := Lib.hid hg3
  have HQ := Lib.hid hq3
  clear CK hp3 hr3 hg3 hq3 hsz
  refine wp_region_class_tail (C := fun u => Below w3.heap.size w3 u) 9 (by kernel_rfl) (by kernel_rfl) (Below.refl _ _).drew ?_
  simp only [List.take_succ_cons, List.take_zero, List.drop_succ_cons, List.drop_zero]
  iterate 9 (first
    | go_big_quiet_skip
    | (go_big_quiet_want
       go_big_quiet_op
       first
         | go_big_quiet_on
         | (apply Exists.intro
            refine ⟨fun u hu => ?_, ?_⟩
            · first
                | with_reducible rfl
                | (go_at_call 73; refine (CA.out u).mono ?_; rintro e wx ⟨rfl, bx⟩; exact ⟨rfl, hu.trans (bx.mono hu.size)⟩)
                | (obtain ⟨ck, cf, cq⟩ := HK.out u hu; go_simp; first | done | with_reducible rfl)
            go_big_quiet_on)))
  refine wpQuiet_nil ?_
  intro w4 hb4
  obtain ⟨ck, cf, cq⟩ := HK.out w4 hb4
  have hp4 := HP.out.below hb4 HP.out.lt
  have hr4 := HR.out.below hb4 HR.out.lt
  have hq4 := HQ.out.below hb4 HQ.out.lt
  have hg4 := gb_belowP HG.out (hb4.mono HG.out.size)
  clear HP HR HQ HG HK CA hb4
  go_upto_region 4 with fail
  have hp5 := hp4.set_ k (.int .i64 z)
  have hr5 := hr4.grown (gb_set (gb_refl w4 (some p)) k (.int .i64 z)) (by intro e; injection e; omega)
  have hq5 := hq4.grown (gb_set (gb_refl w4 (some p)) k (.int .i64 z)) (by intro e; injection e; omega)
  have hg5 := gb_set hg4 k (.int .i64 z)
  clear hp4 hr4 hq4 hg4 ck cf cq
  generalize World.setCell _ _ _ = w5 at hp5 hr5 hq5 hg5 ⊢
  have qc : ∀ i, w5.cell? ⟨w2.heap.size, i, none⟩ = #[.int .i64 x1, .int .i64 x2][i]? := hq5.cell
  have rc : ∀ i, w5.cell? ⟨w.heap.size, i, none⟩ = #[.int .i64 0, .int .i64 0][i]? := hr5.cell
  have rf : ∀ i, w5.frozen? ⟨w.heap.size, i, none⟩ = false := hr5.frozen
  go_wp2_with fail
  have hr6 := (hr5.set_ 0 (.int .i64 x1)).set_ 1 (.int .i64 x2)
  have hg56 := gb_set (gb_set (gb_refl w5 (some w.heap.size)) 0 (.int .i64 x1)) 1 (.int .i64 x2)
  have hp6 := hp5.grown hg56 (by intro e; injection e; omega)
  have hg6 : w.grownBy _ (some p) := gb_newP (gb_newP hg5 (Nat.le_refl _) 0 (.int .i64 x1)) (Nat.le_refl _) 1 (.int .i64 x2)
  clear qc rc rf hr5 hq5 hp5 hg5 hg56
  generalize World.setCell _ _ _ = w6 at hr6 hp6 hg6 ⊢
  have rc : ∀ i, w6.cell? ⟨w.heap.size, i, none⟩ = #[.int .i64 x1, .int .i64 x2][i]? := hr6.cell
  exact bodyPost_ret (v := .agg #[.int .i64 x1, .int .i64 x2]) (by simp [results, Tryz.results38, go_sem, rc]) rfl ⟨rfl, hg6, hp6⟩
end Go.Proofs.YteopplldbcgjjaaGreatDoor.Mx

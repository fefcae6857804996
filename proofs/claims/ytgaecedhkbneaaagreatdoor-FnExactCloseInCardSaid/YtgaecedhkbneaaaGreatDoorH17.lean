import Derived.Test.YtgaecedhkbneaaaGreatDoorH16
import Derived.Test.YtgaecedhkbneaaaGreatDoorH10
import Derived.Test.YtgaecedhkbneaaaGreatDoorH13
import Derived.Test.YtgaecedhkbneaaaGreatDoorH09
namespace Go.Proofs.YtgaecedhkbneaaaGreatDoor.Mx
open Go.ChangeShapes Go.WideShapes Go.ChangeAt Go.RowKit
set_option linter.unusedVariables false
theorem addOf_sum {a b : Int} (ha : isSumP a) (hb : isSumP b) : isSumP (addOf a b) := by
  unfold isSumP at *
  unfold addOf
  rw [if_pos ⟨ha, hb⟩]; omega
theorem tagOf_sum {key a t v : Int} (hk : isKey key) (h : isTri a t v) : isSumP (tagOf key a t v) := by
  refine ⟨?_, (tagOf_bd key a t v).2⟩
  rw [tagOf_yes h]
  unfold isTri isAt isTm isVal at h
  exact mixOf_nat hk.1 hk.2 (fine_four (by omega) (by omega) (by omega) (by omega))
theorem hiddenOf_val {key a t v : Int} (hk : isKey key) (h : isTri a t v) : isVal (hiddenOf key a t v) := by
  have hs := streamOf_nat hk.1 hk.2 h.1.1 h.2.1.1
  unfold hiddenOf
  rw [turnOf_yes hs h.2.2]
  unfold isVal; omega
theorem shownOf_val {key a t v : Int} (hk : isKey key) (ha : isAt a) (h : isCell t v) : isVal (shownOf key a t v) := by
  have hs := streamOf_nat hk.1 hk.2 ha.1 h.1.1
  unfold shownOf
  rw [turnOf_yes hs h.2]
  unfold isVal; omega
theorem tripleIn_tag {key a t v : Int} (hk : isKey key) (ha : isAt a) (h : isCell t v) : isSumP (tagOf key (tripleIn a t v).1 (tripleIn a t v).2.1 (tripleIn a t v).2.2) := by
  have ht : isTri a t v := ⟨ha, h.1, h.2⟩
  rw [tripleIn_yes ht]; exact tagOf_sum hk ht
theorem cellOf_cell {key a t v : Int} (hk : isKey key) (ha : isAt a) (ht : isTm t) (hv : isVal v) : isCell (cellOf key a t v).1 (cellOf key a t v).2 := by
  have h : isTri a t v := ⟨ha, ht, hv⟩
  rw [cellOf_yes hk h]; exact ⟨ht, hiddenOf_val hk h⟩
theorem scanned_right {key : Int} {l : List Int} {r : Nat} {t : Tru} {ct cv : Int} (ht : trustOk key l r t) (hc : isCell ct cv) :
    trustOk key l r (scanned key l r t ct cv).1 ∧ isCell (scanned key l r t ct cv).2.1.1 (scanned key l r t ct cv).2.1.2 := by
  have hp := ht.1
  have hrl : r < l.length := by have := ht.2.1; omega
  unfold scanned
  rw [if_pos ⟨ht, hc⟩]
  split
  · exact ⟨ht, hc⟩
  · split
    · exact ⟨ht, hc⟩
    · split
      · exact ⟨ht, hc⟩
      · rename_i hf hcl hti
        obtain ⟨p1, p2, p3, p4, p5, p6, p7, p8, p9, p10⟩ := ht
        rw [Int.toNat_natCast] at *
        have ha : isAt (firstOf key l r + t.cursor) := by
          rw [firstOf_yes hp hrl]
          have h1 := upTo_bd hp.2.2.1 (k := r) (by omega)
          have h2 := upTo_succ l hrl
          have h3 := upTo_mono hp.2.2.1 (i := r + 1) (j := l.length) (by omega) (Nat.le_refl _)
          have := hp.2.2.2
          unfold isAt; omega
        have htm : isTm (t.clock + 1) := by unfold isTm at p3 ⊢; omega
        have hv : isVal (valueIn key (firstOf key l r + t.cursor) ct cv) := by rw [valueIn_yes hp.1 ha hc]; exact shownOf_val hp.1 ha hc
        have hcell := cellOf_cell hp.1 ha htm hv
        have hs1 := addOf_sum p7 (tripleIn_tag hp.1 ha hc)
        have hs2 := addOf_sum p10 (tripleIn_tag hp.1 ha hcell)
        split
        · refine ⟨⟨p1, p2, htm, p4, ?_, fun h => ?_, hs1, p8, p9, hs2⟩, hcell⟩
          · simp only [scanMid]; rw [Int.toNat_natCast]; omega
          · simp only [scanMid] at h; omega
        · refine ⟨?_, hcell⟩
          have z0 : isSumP 0 := by unfold isSumP; omega
          have hlc := hp.2.2.1 r hrl
          unfold verdictOf
          split
          · refine ⟨p1, p2, htm, ⟨?_, ?_⟩, ⟨by simp only []; omega, by simp only []; rw [Int.toNat_natCast]; omega⟩, fun _ => ⟨rfl, rfl⟩, p9, hs2, z0, z0⟩
            · simp only [scanMid]; omega
            · simp only [scanMid]; omega
          · exact ⟨p1, p2, htm, p4, ⟨by simp only []; omega, by simp only []; rw [Int.toNat_natCast]; omega⟩, fun _ => ⟨rfl, rfl⟩, hs1, p8, z0, z0⟩
def SlN.Inv (key : Int) (l : List Int) (s : SlN) : Prop := (s.cells = [] ∨ cellsOk key l s.cells) ∧ s.trusts.length ≤ 4 ∧ TrusI s.trusts ∧ I64 s.count ∧ I64 s.mac
def VolN.Inv (x : VolN) : Prop := planOk x.key x.counts ∧ trustsOk x.key x.counts x.trusts ∧ cellsOk x.key x.counts x.cells ∧ (0 ≤ x.count ∧ x.count ≤ 10000) ∧ x.s0.Inv x.key x.counts ∧ x.s1.Inv x.key x.counts
theorem cellsOk.len {key : Int} {l : List Int} {L : List Ce} (hp : planOk key l) (h : cellsOk key l L) : (L.length : Int) = upTo l l.length ∧ L.length ≤ 24 := by
  have e := h.2
  unfold sectorsOf at e
  rw [if_pos hp] at e
  have := hp.2.2.2
  exact ⟨e, by omega⟩
theorem SlN.Inv.fits {key : Int} {l : List Int} {s : SlN} (hp : planOk key l) (h : s.Inv key l) : s.Fits := by
  obtain ⟨h0, h1, h2, h3, h4⟩ := h
  refine ⟨by omega, ?_, h2, h3⟩
  rcases h0 with h0 | h0
  · rw [h0]; simp
  · have := (h0.len hp).2; omega
theorem VolN.Inv.short {x : VolN} (h : x.Inv) : x.Short := by
  obtain ⟨hp, ht, hc, hn, h0, h1⟩ := h
  have a := hp.2.1.2
  have b := ht.2.1
  have c := (hc.len hp).2
  have d := h0.fits hp
  have e := h1.fits hp
  exact ⟨by omega, by omega, by omega, d.1, d.2.1, e.1, e.2.1⟩
theorem VolN.Inv.fit {x : VolN} (h : x.Inv) : x.Fit := ⟨h.2.1.2.1, (h.2.2.1.len h.1).1⟩
theorem VolN.Inv.cur {x : VolN} (h : x.Inv) : x.CurOk := by
  intro i hi
  have ht := h.2.1.2.2 i (by rw [h.2.1.2.1]; exact hi)
  have := ht.2.2.2.2.1
  rw [Int.toNat_natCast] at this
  omega
theorem trustsOk_set {key : Int} {l : List Int} {L : List Tru} {r : Nat} {t : Tru} (h : trustsOk key l L) (ht : trustOk key l r t) : trustsOk key l (L.set r t) := by
  refine ⟨h.1, by rw [List.length_set]; exact h.2.1, fun i hi => ?_⟩
  rw [List.length_set] at hi
  rw [getD_set_]
  split
  · rename_i e; rw [← e.1]; exact ht
  · exact h.2.2 i hi
theorem cellsOk_set {key : Int} {l : List Int} {L : List Ce} {j : Nat} {c : Ce} (h : cellsOk key l L) (hc : isCell c.1 c.2) : cellsOk key l (L.set j c) := by
  refine ⟨fun i hi => ?_, by rw [List.length_set]; exact h.2⟩
  rw [List.length_set] at hi
  rw [getD_set_]
  split
  · exact hc
  · exact h.1 i hi
theorem VolN.Inv.put {x : VolN} (h : x.Inv) {r : Nat} {t : Tru} {j : Nat} {c : Ce} (ht : trustOk x.key x.counts r t) (hc : isCell c.1 c.2) : ({ x with trusts := x.trusts.set r t, cells := x.cells.set j c } : VolN).Inv :=
  ⟨h.1, trustsOk_set h.2.1 ht, cellsOk_set h.2.2.1 hc, h.2.2.2.1, h.2.2.2.2.1, h.2.2.2.2.2⟩
theorem stepVol_inv {x : VolN} (h : x.Inv) (r : Int) : (stepVol x r).1.Inv := by
  unfold stepVol
  split
  · rename_i hf
    have hpr : planOk x.key x.counts ∧ 0 ≤ r ∧ r < x.counts.length := by
      refine Classical.byContradiction fun hn => ?_
      unfold firstOf at hf
      rw [if_neg hn] at hf
      omega
    obtain ⟨i, rfl⟩ : ∃ i : Nat, r = i := ⟨r.toNat, by omega⟩
    have hi : i < x.counts.length := by omega
    have ht := h.2.1.2.2 i (by rw [h.2.1.2.1]; exact hi)
    have hcu := h.cur i hi
    have h1 := upTo_bd h.1.2.2.1 (k := i) (by omega)
    have h2 := upTo_succ x.counts hi
    have h3 := upTo_mono h.1.2.2.1 (i := i + 1) (j := x.counts.length) (by omega) (Nat.le_refl _)
    have hat : (firstOf x.key x.counts (i : Int) + (x.trusts.getD (i : Int).toNat default).cursor).toNat < x.cells.length := by
      have := (h.2.2.1.len h.1).1
      rw [firstOf_yes h.1 hi, Int.toNat_natCast]; omega
    have hc := h.2.2.1.1 _ hat
    have hR := scanned_right (t := x.trusts.getD (i : Int).toNat default) (by rw [Int.toNat_natCast]; exact ht) hc
    exact h.put (by rw [Int.toNat_natCast] at *; exact hR.1) hR.2
  · exact h
theorem closeN_inv (r : Int) (n : Nat) {x : VolN} (h : x.Inv) : (closeN r n x).1.Inv := by
  induction n generalizing x with
  | zero => exact stepVol_inv h r
  | succ n ih =>
    unfold closeN
    split
    · exact ih (stepVol_inv h r)
    · exact stepVol_inv h r
theorem closeVol_inv {x : VolN} (h : x.Inv) (r : Int) : (closeVol x r).1.Inv := closeN_inv r _ h
def VolN.toG (x : VolN) : VolG := ⟨x.key, x.counts, x.trusts, x.cells, [x.s0, x.s1], x.count⟩
def VolG.toN (x : VolG) : VolN := ⟨x.key, x.counts, x.trusts, x.cells, x.slots.getD 0 default, x.slots.getD 1 default, x.count⟩
def zeroG : VolG := ⟨0, [], [], [], [], 0⟩
def optG (o : Option VolN) : VolG := o.elim zeroG VolN.toG
def VolQ (u : World) (base : Nat) (o : Option VolN) (v : Value) : Prop := match o with | none => v = .agg #[.int .i64 0, .slice none 0 0, .slice none 0 0, .slice none 0 0, .slice none 0 0, .int .i64 0] | some x => VolO u base x v
theorem RdG.zero (w : World) (Bd : Nat) : RdG w Bd zeroG (.agg #[.int .i64 0, .slice none 0 0, .slice none 0 0, .slice none 0 0, .slice none 0 0, .int .i64 0]) := ⟨none, 0, none, 0, none, 0, none, 0, rfl, fun i hi => by simp [zeroG] at hi, Sls.nil, Sls.nil, fun i hi => by simp [zeroG] at hi, Nat.le_refl _, Nat.le_refl _⟩
theorem VolR.toG {w : World} {Bd : Nat} {x : VolN} {v : Value} (h : VolR w Bd x v) (hs : ∃ A c B d C e b o s, v = .agg #[.int .i64 x.key, .slice A x.counts.length c, .slice B x.trusts.length d, .slice C x.cells.length e, .slice (some ⟨b, o, none⟩) 2 s, .int .i64 x.count] ∧ 2 ≤ s) : RdG w Bd x.toG v := by
  obtain ⟨A, c, B, d, C, e, b, off, sc, rfl, h1, h2, h3, h4, h5, h6, h7⟩ := h
  obtain ⟨_, _, _, _, _, _, _, _, _, e1, h8⟩ := hs
  simp only [Value.agg.injEq, Array.mk.injEq, List.cons.injEq, Value.slice.injEq, true_and, and_true] at e1
  obtain ⟨-, -, -, -, rfl⟩ := e1
  refine ⟨A, c, B, d, C, e, _, sc, rfl, h1, h2, h3, fun i hi => ?_, h7, h8⟩
  simp only [VolN.toG, List.length_cons, List.length_nil] at hi
  obtain rfl | rfl : i = 0 ∨ i = 1 := by omega
  · exact ⟨b, off, rfl, h4, h5⟩
  · exact ⟨b, off, rfl, h4, h6⟩
theorem VolQ.reads {u : World} {base : Nat} {o : Option VolN} {v : Value} (h : VolQ u base o v) : RdG u u.heap.size (optG o) v := by
  cases o with
  | none => have e : v = .agg #[.int .i64 0, .slice none 0 0, .slice none 0 0, .slice none 0 0, .slice none 0 0, .int .i64 0] := h; subst e; exact RdG.zero _ _
  | some x =>
    refine VolR.toG (VolO.reads h) ?_
    obtain ⟨A, c, B, d, C, e, g, A0, c0, C0, d0, A1, c1, C1, d1, rfl, -⟩ := h
    exact ⟨A, c, B, d, C, e, g, 0, 2, rfl, Nat.le_refl _⟩
def Mid (lo hi : Nat) (u v : World) : Prop := v.os = u.os ∧ v.tape = u.tape ∧ v.output = u.output ∧ u.heap.size ≤ v.heap.size ∧ ∀ k, k < u.heap.size → (k < lo ∨ hi ≤ k) → v.heap[k]? = u.heap[k]?
theorem Mid.refl (lo hi : Nat) (u : World) : Mid lo hi u u := ⟨rfl, rfl, rfl, Nat.le_refl _, fun _ _ _ => rfl⟩
theorem Mid.trans {lo hi : Nat} {u v w : World} (h : Mid lo hi u v) (h' : Mid lo hi v w) : Mid lo hi u w :=
  ⟨h'.1.trans h.1, h'.2.1.trans h.2.1, h'.2.2.1.trans h.2.2.1, Nat.le_trans h.2.2.2.1 h'.2.2.2.1, fun k hk hr => (h'.2.2.2.2 k (Nat.lt_of_lt_of_le hk h.2.2.2.1) hr).trans (h.2.2.2.2 k hk hr)⟩
theorem Mid.of {lo hi : Nat} {u v : World} {r : Option Nat} (hg : u.grownBy v r) (h : ∀ k, r = some k → lo ≤ k ∧ k < hi) : Mid lo hi u v :=
  ⟨hg.os, hg.tape, hg.output, hg.size, fun k hk hr => hg.block k hk (fun e => by have := h k e.symm; omega)⟩
theorem Mid.of_below {lo hi : Nat} {u v : World} (h : Below u.heap.size u v) : Mid lo hi u v := ⟨h.os, h.tape, h.output, h.size, fun k hk _ => h.block k hk⟩
theorem Mid.below {lo hi : Nat} {u v : World} (h : Mid lo hi u v) (hl : lo ≤ u.heap.size) : Below lo u v := ⟨h.1, h.2.1, h.2.2.1, h.2.2.2.1, fun k hk => h.2.2.2.2 k (by omega) (.inl hk)⟩
theorem row_same {u u' : World} {base t size n : Nat} {v : Value} {xs : List Value} (h : u.ownsRow base t size v n xs) (hs : ∀ g, v.ownBlock = some g → u'.heap[g]? = u.heap[g]?) : u'.ownsRow base t size v n xs := by
  refine ⟨h.1, ?_⟩
  rcases h.2 with h0 | ⟨g, cap, cur, rfl, hb, hg, r⟩
  · exact .inl h0
  · exact .inr ⟨g, cap, cur, rfl, hb, (hs g rfl).trans hg, r⟩
theorem VolQ.below {u u' : World} {base : Nat} {o : Option VolN} {v : Value} (h : VolQ u base o v) (hb : Below u.heap.size u u') : VolQ u' base o v := by
  cases o with
  | none => exact h
  | some x => exact VolO.below h hb
theorem ne_of_type {u : World} {p g n : Nat} {t t' : TypeId} {cs : Array Value} (h : ShX u p t n) (hc : CellsAt u g t' cs) (ht : t ≠ t') : p ≠ g := fun e => by
  subst e
  obtain ⟨es, h1, -⟩ := h
  have h4 : some (Obj.cells es t (0, 0)) = some (Obj.cells cs t' (0, 0)) := h1.symm.trans hc
  simp only [Option.some.injEq, Obj.cells.injEq, and_true] at h4
  exact ht h4.2
set_option maxRecDepth 20000 in
set_option maxHeartbeats 16000000 in
theorem markSlotS_mid (lo hi g : Nat) (S : List SlN) (cap : Nat) (m : Int) (w : World) (hn : S.length ≤ 1048576) (hS : SlShort S) (hm0 : 0 ≤ m) (hm1 : m ≤ 1000000000) (h : SlOwn w lo hi g S) :
    Calls Tryz.prog 85 #[.slice (some ⟨g, 0, none⟩) S.length cap, .int .i64 m] w fun e w' => (∃ z : Int, e = .returned (.int .i64 z) ∧ 0 ≤ z) ∧ Mid lo hi w w' := by
  have HO := Lib.hid h
  have HS := Lib.hid hS
  clear h hS
  go_enter Tryz.func85, Tryz.ntmps85
  go_wp2_with fail
  go_loopw [5, 1] (fun i t' u => ∃ k : Nat, ∃ z : Int, k ≤ S.length ∧ i = .int .i64 k ∧ (0 ≤ z ∧ z ≤ m + 16777216 * k) ∧ t' = .int .i64 z ∧ SlOwn u lo hi g S ∧ Mid lo hi w u) (fun i _ _ => S.length - (intOf i).toNat)
  case atStart => exact ⟨0, m, Nat.zero_le _, rfl, ⟨hm0, by simp⟩, rfl, HO.out, Mid.refl _ _ _⟩
  case round =>
    obtain ⟨k, z, hk, rfl, ⟨z0, z1⟩, rfl, hso, hmid⟩ := hrel
    have HM := Lib.hid hmid
    clear hmid
    by_cases hlt : k < S.length
    · have hlt' : (k : Int) < S.length := by omega
      have hk0 : (0 : Int) ≤ k := by omega
      obtain ⟨⟨hg0, hg1⟩, cs, hcs, hsz, hall⟩ := hso
      obtain ⟨a, b, ha, hb, ea, eb, sa, sb⟩ := hall k hlt
      have hts := HS.out k hlt
      have hag := ne_of_type sa hcs (by decide)
      have hbg := ne_of_type sb hcs (by decide)
      have hc1 := hcs.set_ (k * 4) (.int .i64 z)
      have o1 : ∀ o, (cs.setIfInBounds (k * 4) (.int .i64 z))[k * 4 + (o + 1)]? = cs[k * 4 + (o + 1)]? := fun o => Array.getElem?_setIfInBounds_ne (by omega)
      obtain ⟨q0, e0⟩ : ∃ q, wr.cell? ⟨g, k * 4, none⟩ = some q := ⟨_, (hcs.cell (k * 4)).trans (Array.getElem?_eq_getElem (by omega))⟩
      obtain ⟨q2, e2⟩ : ∃ q, cs[k * 4 + 2]? = some q := ⟨_, Array.getElem?_eq_getElem (by omega)⟩
      have f0 := hcs.frozen (k * 4)
      have d1 : (wr.setCell ⟨g, k * 4, none⟩ (.int .i64 z)).cell? ⟨g, k * 4 + 1, none⟩ = some (.slice (some ⟨a, 0, none⟩) (S.getD k default).trusts.length (S.getD k default).trusts.length) := ((hc1.cell _).trans (o1 0)).trans ea
      have sa1 := sa.off (p := g) (by omega) (k * 4) (.int .i64 z)
      have sb1 := sb.off (p := g) (by omega) (k * 4) (.int .i64 z)
      have so1 : SlOwn (wr.setCell ⟨g, k * 4, none⟩ (.int .i64 z)) lo hi g S := ⟨⟨hg0, hg1⟩, _, hc1, by simpa using hsz, fun j hj => by
        obtain ⟨a', b', ha', hb', ea', eb', sa', sb'⟩ := hall j hj
        exact ⟨a', b', ha', hb', (Array.getElem?_setIfInBounds_ne (by omega)).trans ea', (Array.getElem?_setIfInBounds_ne (by omega)).trans eb', sa'.off (p := g) (fun e => ne_of_type sa' hcs (by decide) e.symm) _ _, sb'.off (p := g) (fun e => ne_of_type sb' hcs (by decide) e.symm) _ _⟩⟩
      have m1 := Mid.of (lo := lo) (hi := hi) (gb_set (gb_refl wr (some g)) (k * 4) (.int .i64 z)) (fun k e => by injection e; omega)
      have HC1 := Lib.hid hc1
      have SO1 := Lib.hid so1
      have SA1 := Lib.hid sa1
      have SB1 := Lib.hid sb1
      have M1 := Lib.hid (HM.out.trans m1)
      have EA := Lib.hid ea
      have EB := Lib.hid eb
      have E2 := Lib.hid e2
      clear hcs hall sa sb sa1 sb1 so1 m1 ea eb e2 o1 hc1
      generalize hst : (S.getD k default).trusts.length = st at d1 SA1 hts EA
      generalize hsc : (S.getD k default).cells.length = sc at SB1 hts EB
      clear hst hsc
      go_wp2_with fail
      clear e0 f0 d1
      generalize World.setCell _ _ _ = w1 at HC1 SO1 SA1 SB1 M1 ⊢
      obtain ⟨ta, hta, htn⟩ := SA1.out
      refine (markTrustG_calls a st _ (z + 1) _ ta w1 hts.1 (by omega) (by omega) hta htn).mono ?_; rintro e w2 ⟨rfl, -, hg2, da, hda, hds⟩
      have hc2 := HC1.out.grown hg2 (by intro e; injection e with e; omega)
      have so2 := SO1.out.keep hg2 hta hda hds (by decide)
      have sb2 := (show ShX w1 b _ _ from SB1.out).keep hg2 hta hda hds
      have m2 := M1.out.trans (Mid.of (lo := lo) (hi := hi) hg2 (fun k e => by injection e; omega))
      have o2 : (cs.setIfInBounds (k * 4) (.int .i64 z))[k * 4 + 2]? = some q2 := (Array.getElem?_setIfInBounds_ne (by omega)).trans E2.out
      have e2 : w2.cell? ⟨g, k * 4 + 2, none⟩ = some q2 := (hc2.cell _).trans o2
      have f2 := hc2.frozen (k * 4 + 2)
      have hc3 := hc2.set_ (k * 4 + 2) (.int .i64 (z + 1 + 8 * st))
      have d3 : (w2.setCell ⟨g, k * 4 + 2, none⟩ (.int .i64 (z + 1 + 8 * st))).cell? ⟨g, k * 4 + 3, none⟩ = some (.slice (some ⟨b, 0, none⟩) sc sc) := (hc3.cell _).trans ((Array.getElem?_setIfInBounds_ne (by omega)).trans ((Array.getElem?_setIfInBounds_ne (by omega)).trans EB.out))
      have sb3 := sb2.off (p := g) (by omega) (k * 4 + 2) (.int .i64 (z + 1 + 8 * st))
      have so3 : SlOwn (w2.setCell ⟨g, k * 4 + 2, none⟩ (.int .i64 (z + 1 + 8 * st))) lo hi g S := by
        obtain ⟨hgg, cs', hcs', hsz', hall'⟩ := so2
        exact ⟨hgg, _, hcs'.set_ (k * 4 + 2) _, by simpa using hsz', fun j hj => by
          obtain ⟨a', b', ha', hb', ea', eb', sa', sb'⟩ := hall' j hj
          exact ⟨a', b', ha', hb', (Array.getElem?_setIfInBounds_ne (by omega)).trans ea', (Array.getElem?_setIfInBounds_ne (by omega)).trans eb', sa'.off (p := g) (fun e => ne_of_type sa' hcs' (by decide) e.symm) _ _, sb'.off (p := g) (fun e => ne_of_type sb' hcs' (by decide) e.symm) _ _⟩⟩
      have m3 := m2.trans (Mid.of (lo := lo) (hi := hi) (gb_set (gb_refl w2 (some g)) (k * 4 + 2) (.int .i64 (z + 1 + 8 * st))) (fun k e => by injection e; omega))
      have SO3 := Lib.hid so3
      have SB3 := Lib.hid sb3
      have M3 := Lib.hid m3
      clear hta htn hg2 hda hds hc2 so2 sb2 m2 o2 hc3 sb3 so3 m3 HC1 SO1 SA1 SB1 M1 EA EB E2
      go_wp2_with fail
      clear e2 f2 d3
      generalize World.setCell _ _ _ = w3 at SO3 SB3 M3 ⊢
      obtain ⟨tb, htb, htm⟩ := SB3.out
      refine (markCellG_calls b sc _ (z + 1 + 8 * st + 1) _ tb w3 hts.2 (by omega) (by omega) htb htm).mono ?_; rintro e w4 ⟨rfl, -, hg4, db, hdb, hds⟩
      have SO4 := Lib.hid (SO3.out.keep hg4 htb hdb hds (by decide))
      have M4 := Lib.hid (M3.out.trans (Mid.of (lo := lo) (hi := hi) hg4 (fun k e => by injection e; omega)))
      clear htb htm hg4 hdb hds SO3 SB3 M3
      go_wp2_with fail
      go_roundw
      case rel => exact ⟨k + 1, z + 1 + 8 * st + 1 + 2 * sc, by omega, by go_num, ⟨by omega, by omega⟩, rfl, SO4.out, M4.out⟩
      case measure => simp [intOf]; omega
    · obtain rfl : k = S.length := by omega
      clear hso
      go_wp2_with fail
      go_ret
      exact ⟨⟨z, rfl, z0⟩, HM.out⟩
def TurnP (Q : Nat → Prop) (u v : World) : Prop := v.os = u.os ∧ v.tape = u.tape ∧ v.output = u.output ∧ u.heap.size ≤ v.heap.size ∧ ∀ k, k < u.heap.size → ¬ Q k → v.heap[k]? = u.heap[k]?
theorem TurnP.refl (Q : Nat → Prop) (u : World) : TurnP Q u u := ⟨rfl, rfl, rfl, Nat.le_refl _, fun _ _ _ => rfl⟩
theorem TurnP.trans {Q : Nat → Prop} {u v w : World} (h : TurnP Q u v) (h' : TurnP Q v w) : TurnP Q u w :=
  ⟨h'.1.trans h.1, h'.2.1.trans h.2.1, h'.2.2.1.trans h.2.2.1, Nat.le_trans h.2.2.2.1 h'.2.2.2.1, fun k hk hq => (h'.2.2.2.2 k (Nat.lt_of_lt_of_le hk h.2.2.2.1) hq).trans (h.2.2.2.2 k hk hq)⟩
theorem TurnP.weak {Q R : Nat → Prop} {u v : World} (h : TurnP Q u v) (hq : ∀ k, Q k → R k) : TurnP R u v := ⟨h.1, h.2.1, h.2.2.1, h.2.2.2.1, fun k hk hr => h.2.2.2.2 k hk (fun x => hr (hq k x))⟩
theorem TurnP.own {u v : World} {a : Value} (hg : u.grownBy v a.ownBlock) : TurnP (fun k => k ∈ blkOf a) u v := by
  refine ⟨hg.os, hg.tape, hg.output, hg.size, fun k hk hq => hg.block k hk (fun e => hq ?_)⟩
  unfold Value.ownBlock at e
  split at e
  · injection e with e; subst e; simp [blkOf]
  · cases e
theorem TurnP.one {u v : World} {g : Nat} (hg : u.grownBy v (some g)) : TurnP (fun k => k = g) u v :=
  ⟨hg.os, hg.tape, hg.output, hg.size, fun k hk hq => hg.block k hk (fun e => hq (by injection e))⟩
theorem TurnP.row {Q : Nat → Prop} {u u' : World} {base t size n : Nat} {v : Value} {xs : List Value} (h : TurnP Q u u') (r : u.ownsRow base t size v n xs) (hs : ∀ y ∈ blkOf v, ¬ Q y) : u'.ownsRow base t size v n xs :=
  row_stable r fun y hy => h.2.2.2.2 y (row_at r y hy).2 (hs y hy)
theorem TurnP.cells {Q : Nat → Prop} {u u' : World} {g : Nat} {t : TypeId} {cs : Array Value} (h : TurnP Q u u') (c : CellsAt u g t cs) (hs : ¬ Q g) : CellsAt u' g t cs := (h.2.2.2.2 g c.lt hs).trans c
theorem HeldN.turn {Q : Nat → Prop} {u u' : World} {v : Value} {n : Nat} {m : Int} (h : HeldN u v n m) (ht : TurnP Q u u') (hs : ∀ y ∈ blkOf v, ¬ Q y) : HeldN u' v n m := by
  rcases h with ⟨g, c, rfl, hg, hm⟩ | h
  · exact .inl ⟨g, c, rfl, Nat.lt_of_lt_of_le hg ht.2.2.2.1, hm.block (ht.2.2.2.2 g hg (hs g (by simp [blkOf])))⟩
  · exact .inr h
theorem HeldTr.turn {Q : Nat → Prop} {u u' : World} {v : Value} {n : Nat} {m : Int} (h : HeldTr u v n m) (ht : TurnP Q u u') (hs : ∀ y ∈ blkOf v, ¬ Q y) : HeldTr u' v n m := by
  rcases h with ⟨g, c, rfl, hg, hm⟩ | h
  · exact .inl ⟨g, c, rfl, Nat.lt_of_lt_of_le hg ht.2.2.2.1, hm.block (ht.2.2.2.2 g hg (hs g (by simp [blkOf])))⟩
  · exact .inr h
theorem HeldC.turn {Q : Nat → Prop} {u u' : World} {v : Value} {n : Nat} {m : Int} (h : HeldC u v n m) (ht : TurnP Q u u') (hs : ∀ y ∈ blkOf v, ¬ Q y) : HeldC u' v n m := by
  rcases h with ⟨g, c, rfl, hg, hm⟩ | h
  · exact .inl ⟨g, c, rfl, Nat.lt_of_lt_of_le hg ht.2.2.2.1, hm.block (ht.2.2.2.2 g hg (hs g (by simp [blkOf])))⟩
  · exact .inr h
def markAt (S : List SlN) (m : Int) : Nat → Int
  | 0 => m
  | k + 1 => markAt S m k + 1 + 8 * (S.getD k default).trusts.length + 1 + 2 * (S.getD k default).cells.length
theorem markAt_bound (S : List SlN) (hS : SlShort S) (m : Int) (hm : 0 ≤ m) : ∀ k : Nat, k ≤ S.length → 0 ≤ markAt S m k ∧ markAt S m k ≤ m + 10485762 * k := by
  intro k
  induction k with
  | zero => intro _; exact ⟨hm, by simp [markAt]⟩
  | succ k ih =>
    intro hk
    obtain ⟨h0, h1⟩ := ih (by omega)
    obtain ⟨h2, h3⟩ := hS k (by omega)
    unfold markAt
    constructor
    · omega
    · push_cast; omega
structure SlW where
  a : Nat → Value
  b : Nat → Value
def SlW.Apart (f : SlW) (g n : Nat) : Prop := (∀ j, j < n → (∀ y ∈ blkOf (f.a j), y ≠ g) ∧ ∀ y ∈ blkOf (f.b j), y ≠ g) ∧ (∀ i j, i < n → j < n → ∀ y ∈ blkOf (f.a i), y ∉ blkOf (f.b j)) ∧ (∀ i j, i < n → j < n → i ≠ j → ∀ y ∈ blkOf (f.a i), y ∉ blkOf (f.a j)) ∧ (∀ i j, i < n → j < n → i ≠ j → ∀ y ∈ blkOf (f.b i), y ∉ blkOf (f.b j))
def SlW.Q (f : SlW) (g n : Nat) (y : Nat) : Prop := y = g ∨ ∃ j, j < n ∧ (y ∈ blkOf (f.a j) ∨ y ∈ blkOf (f.b j))
def SlW.Q1 (f : SlW) (g k : Nat) (y : Nat) : Prop := y = g ∨ y ∈ blkOf (f.a k) ∨ y ∈ blkOf (f.b k)
def SlSt (u : World) (base g : Nat) (f : SlW) (S : List SlN) (m : Int) (k : Nat) : Prop :=
  (∃ cs, CellsAt u g 77 cs ∧ cs.size = S.length * 4 ∧ (∀ j, j < S.length → cs[j * 4 + 1]? = some (f.a j) ∧ cs[j * 4 + 3]? = some (f.b j)) ∧
    ∀ j, j < k → cs[j * 4]? = some (.int .i64 (markAt S m j)) ∧ cs[j * 4 + 2]? = some (.int .i64 (markAt S m j + 1 + 8 * (S.getD j default).trusts.length))) ∧
  (∀ j, j < k → HeldTr u (f.a j) (S.getD j default).trusts.length (markAt S m j + 1) ∧ HeldC u (f.b j) (S.getD j default).cells.length (markAt S m j + 1 + 8 * (S.getD j default).trusts.length + 1)) ∧
  (∀ j, k ≤ j → j < S.length → TrRow u base (f.a j) (S.getD j default).trusts ∧ ClRow u base (f.b j) (S.getD j default).cells)
theorem SlSt.row_turn {Q : Nat → Prop} {u u' : World} {base g : Nat} {f : SlW} {S : List SlN} {m : Int} (h : SlSt u base g f S m 0) (ht : TurnP Q u u') (hg : ¬ Q g) (hs : ∀ j, j < S.length → (∀ y ∈ blkOf (f.a j), ¬ Q y) ∧ ∀ y ∈ blkOf (f.b j), ¬ Q y) : SlSt u' base g f S m 0 := by
  obtain ⟨⟨cs, h1, h2⟩, h3, h4⟩ := h
  exact ⟨⟨cs, ht.cells h1 hg, h2⟩, fun j hj => by omega, fun j h5 h6 => ⟨ht.row (h4 j h5 h6).1 (hs j h6).1, ht.row (h4 j h5 h6).2 (hs j h6).2⟩⟩
theorem SlSt.below {u u' : World} {base g : Nat} {f : SlW} {S : List SlN} {m : Int} (h : SlSt u base g f S m S.length) (hb : Below u.heap.size u u') : SlSt u' base g f S m S.length := by
  obtain ⟨⟨cs, h1, h2⟩, h3, h4⟩ := h
  exact ⟨⟨cs, h1.below hb h1.lt, h2⟩, fun j hj => ⟨(h3 j hj).1.below hb, (h3 j hj).2.below hb⟩, fun j h5 h6 => by omega⟩
set_option maxRecDepth 20000 in
set_option maxHeartbeats 16000000 in
theorem markSlotS_own (base g : Nat) (f : SlW) (S : List SlN) (cap : Nat) (m : Int) (w : World) (hn : S.length ≤ 1048576) (hS : SlShort S) (hm0 : 0 ≤ m) (hm1 : m ≤ 1000000000) (hb : base ≤ g) (hp : f.Apart g S.length) (h : SlSt w base g f S m 0) :
    Calls Tryz.prog 85 #[.slice (some ⟨g, 0, none⟩) S.length cap, .int .i64 m] w fun e w' => e = .returned (.int .i64 (markAt S m S.length)) ∧ SlSt w' base g f S m S.length ∧ TurnP (f.Q g S.length) w w' := by
  have HO := Lib.hid h
  have HS := Lib.hid hS
  have HP := Lib.hid hp
  have HB := Lib.hid (markAt_bound S hS m hm0)
  clear h hS hp
  go_enter Tryz.func85, Tryz.ntmps85
  go_wp2_with fail
  go_loopw [5, 1] (fun i t' u => ∃ k : Nat, ∃ z : Int, k ≤ S.length ∧ i = .int .i64 k ∧ z = markAt S m k ∧ t' = .int .i64 z ∧ SlSt u base g f S m k ∧ TurnP (f.Q g S.length) w u) (fun i _ _ => S.length - (intOf i).toNat)
  case atStart => exact ⟨0, m, Nat.zero_le _, rfl, rfl, rfl, HO.out, TurnP.refl _ _⟩
  case round =>
    obtain ⟨k, z, hk, rfl, hz, rfl, hst, htn⟩ := hrel
    have HM := Lib.hid htn
    have HZ := Lib.hid hz
    obtain ⟨z0, z1⟩ : 0 ≤ z ∧ z ≤ 1125899906842624 - 33554432 := by rw [hz]; have := HB.out k hk; omega
    clear htn hz
    by_cases hlt : k < S.length
    · have hlt' : (k : Int) < S.length := by omega
      have hk0 : (0 : Int) ≤ k := by omega
      obtain ⟨⟨cs, hcs, hsz, hab, hmk⟩, hhe, hro⟩ := hst
      obtain ⟨ea, eb⟩ := hab k hlt
      obtain ⟨ra, rb⟩ := hro k (Nat.le_refl _) hlt
      have hts := HS.out k hlt
      obtain ⟨pg, pab, paa, pbb⟩ := HP.out
      have hc1 := hcs.set_ (k * 4) (.int .i64 z)
      obtain ⟨q0, e0⟩ : ∃ q, wr.cell? ⟨g, k * 4, none⟩ = some q := ⟨_, (hcs.cell (k * 4)).trans (Array.getElem?_eq_getElem (by omega))⟩
      obtain ⟨q2, e2⟩ : ∃ q, cs[k * 4 + 2]? = some q := ⟨_, Array.getElem?_eq_getElem (by omega)⟩
      have f0 := hcs.frozen (k * 4)
      have d1 : (wr.setCell ⟨g, k * 4, none⟩ (.int .i64 z)).cell? ⟨g, k * 4 + 1, none⟩ = some (f.a k) := ((hc1.cell _).trans (Array.getElem?_setIfInBounds_ne (by omega))).trans ea
      have t1 : TurnP (fun y => y = g) wr (wr.setCell ⟨g, k * 4, none⟩ (.int .i64 z)) := TurnP.one (gb_set (gb_refl wr (some g)) (k * 4) (.int .i64 z))
      have ra1 := Lib.hid (t1.row ra (fun y hy => (pg k hlt).1 y hy))
      have rb1 := Lib.hid (t1.row rb (fun y hy => (pg k hlt).2 y hy))
      have HC1 := Lib.hid hc1
      have T1 := Lib.hid (t1.weak (R := f.Q1 g k) (fun y hy => .inl hy))
      have EB := Lib.hid eb
      have E2 := Lib.hid e2
      have HSZ := Lib.hid hsz
      have ST := Lib.hid (show _ ∧ _ ∧ _ ∧ _ from ⟨hab, hmk, hhe, hro⟩)
      have PG := Lib.hid (show _ ∧ _ ∧ _ ∧ _ from ⟨pg, pab, paa, pbb⟩)
      clear hcs hsz hab hmk hhe hro ea ra rb hc1 e2 t1 eb pg pab paa pbb
      obtain ⟨va, hva⟩ : ∃ v, v = f.a k := ⟨_, rfl⟩
      obtain ⟨vb, hvb⟩ : ∃ v, v = f.b k := ⟨_, rfl⟩
      obtain ⟨st, hst⟩ : ∃ v, v = (S.getD k default).trusts := ⟨_, rfl⟩
      obtain ⟨sc, hsc⟩ : ∃ v, v = (S.getD k default).cells := ⟨_, rfl⟩
      have HV := Lib.hid (show _ ∧ _ ∧ _ ∧ _ from ⟨hva, hvb, hst, hsc⟩)
      rw [← hva, ← hst] at ra1
      rw [← hvb, ← hsc] at rb1
      rw [← hva] at d1
      rw [← hvb] at EB
      rw [← hst, ← hsc] at hts
      clear hva hvb hst hsc
      obtain ⟨ts0, ts1⟩ := hts
      go_wp2_with fail
      clear e0 f0 d1
      generalize World.setCell _ _ _ = w1 at HC1 ra1 rb1 T1 ⊢
      refine (markTr_own va st base (z + 1) w1 ts0 (by omega) (by omega) ra1.out).mono ?_; rintro e w2 ⟨rfl, h2, hg2⟩
      have t2 := TurnP.own hg2
      have hg' : ∀ y ∈ blkOf va, y ≠ g := fun y hy => by
        obtain ⟨hva, -, -, -⟩ := HV.out
        rw [hva] at hy
        exact (PG.out.1 k hlt).1 y hy
      have hc2 := t2.cells HC1.out (fun y => hg' g y rfl)
      have rb2 := Lib.hid (t2.row rb1.out (fun y hy hy2 => by
        obtain ⟨hva, hvb, -, -⟩ := HV.out
        rw [hva] at hy2
        rw [hvb] at hy
        exact PG.out.2.1 k k hlt hlt y hy2 hy))
      have T2 := Lib.hid (T1.out.trans (t2.weak (R := f.Q1 g k) (fun y hy => .inr (.inl (by
        obtain ⟨hva, -, -, -⟩ := HV.out
        rw [← hva]
        exact hy)))))
      have o2 : (cs.setIfInBounds (k * 4) (.int .i64 z))[k * 4 + 2]? = some q2 := (Array.getElem?_setIfInBounds_ne (by omega)).trans E2.out
      have e2 : w2.cell? ⟨g, k * 4 + 2, none⟩ = some q2 := (hc2.cell _).trans o2
      have f2 := hc2.frozen (k * 4 + 2)
      have hc3 := hc2.set_ (k * 4 + 2) (.int .i64 (z + 1 + 8 * st.length))
      have d3 : (w2.setCell ⟨g, k * 4 + 2, none⟩ (.int .i64 (z + 1 + 8 * st.length))).cell? ⟨g, k * 4 + 3, none⟩ = some vb := (hc3.cell _).trans ((Array.getElem?_setIfInBounds_ne (by omega)).trans ((Array.getElem?_setIfInBounds_ne (by omega)).trans EB.out))
      have t3 : TurnP (fun y => y = g) w2 (w2.setCell ⟨g, k * 4 + 2, none⟩ (.int .i64 (z + 1 + 8 * st.length))) := TurnP.one (gb_set (gb_refl w2 (some g)) _ _)
      have h3 := Lib.hid (h2.turn t3 hg')
      have rb3 := Lib.hid (t3.row rb2.out (fun y hy => by
        obtain ⟨-, hvb, -, -⟩ := HV.out
        rw [hvb] at hy
        exact (PG.out.1 k hlt).2 y hy))
      have T3 := Lib.hid (T2.out.trans (t3.weak (R := f.Q1 g k) (fun y hy => .inl hy)))
      have HC3 := Lib.hid hc3
      clear h2 hg2 t2 hc2 rb2 T2 o2 hc3 t3 HC1 ra1 rb1 T1 E2 hg'
      go_wp2_with fail
      clear e2 f2 d3
      generalize World.setCell _ _ _ = w3 at HC3 h3 rb3 T3 ⊢
      refine (markC_own vb sc base (z + 1 + 8 * st.length + 1) w3 ts1 (by omega) (by omega) rb3.out).mono ?_; rintro e w4 ⟨rfl, h4, hg4⟩
      have t4 := TurnP.own hg4
      have hg' : ∀ y ∈ blkOf vb, y ≠ g := fun y hy => by
        obtain ⟨-, hvb, -, -⟩ := HV.out
        rw [hvb] at hy
        exact (PG.out.1 k hlt).2 y hy
      have HC4 := Lib.hid (t4.cells HC3.out (fun y => hg' g y rfl))
      have H4 := Lib.hid (h3.out.turn t4 (fun y hy hy2 => by
        obtain ⟨hva, hvb, -, -⟩ := HV.out
        rw [hva] at hy
        rw [hvb] at hy2
        exact PG.out.2.1 k k hlt hlt y hy hy2))
      have HX := Lib.hid h4
      have T4 := Lib.hid (T3.out.trans (t4.weak (R := f.Q1 g k) (fun y hy => .inr (.inr (by
        obtain ⟨-, hvb, -, -⟩ := HV.out
        rw [← hvb]
        exact hy)))))
      clear h4 hg4 t4 HC3 h3 rb3 T3 EB hg'
      go_wp2_with fail
      go_roundw
      case rel =>
        obtain ⟨rfl, rfl, rfl, rfl⟩ := HV.out
        have hz := HZ.out
        have hsz := HSZ.out
        obtain ⟨hab, hmk, hhe, hro⟩ := ST.out
        obtain ⟨pg, pab, paa, pbb⟩ := PG.out
        have hne : ∀ j, j < S.length → j ≠ k → (∀ y ∈ blkOf (f.a j), ¬ f.Q1 g k y) ∧ ∀ y ∈ blkOf (f.b j), ¬ f.Q1 g k y := by
          intro j hj hjk
          refine ⟨fun y hy hq => ?_, fun y hy hq => ?_⟩
          · rcases hq with h | h | h
            · exact (pg j hj).1 y hy h
            · exact paa j k hj hlt hjk y hy h
            · exact pab j k hj hlt y hy h
          · rcases hq with h | h | h
            · exact (pg j hj).2 y hy h
            · exact pab k j hlt hj y h hy
            · exact pbb j k hj hlt hjk y hy h
        refine ⟨k + 1, _, by omega, by go_num, rfl, by rw [hz]; rfl, ⟨⟨_, HC4.out, by simpa using hsz, fun j hj => ⟨?_, ?_⟩, fun j hj => ⟨?_, ?_⟩⟩, fun j hj => ?_, fun j h5 h6 => ?_⟩, HM.out.trans (T4.out.weak (fun y hy => ?_))⟩
        · rw [Array.getElem?_setIfInBounds_ne (by omega), Array.getElem?_setIfInBounds_ne (by omega)]; exact (hab j hj).1
        · rw [Array.getElem?_setIfInBounds_ne (by omega), Array.getElem?_setIfInBounds_ne (by omega)]; exact (hab j hj).2
        · rw [Array.getElem?_setIfInBounds_ne (by omega)]
          by_cases hjk : j = k
          · subst hjk; rw [Array.getElem?_setIfInBounds_self_of_lt (by omega), hz]
          · rw [Array.getElem?_setIfInBounds_ne (by omega)]; exact (hmk j (by omega)).1
        · by_cases hjk : j = k
          · subst hjk; rw [Array.getElem?_setIfInBounds_self_of_lt (by simp; omega), hz]
          · rw [Array.getElem?_setIfInBounds_ne (by omega), Array.getElem?_setIfInBounds_ne (by omega)]; exact (hmk j (by omega)).2
        · by_cases hjk : j = k
          · subst hjk; rw [← hz]; exact ⟨H4.out, HX.out⟩
          · exact ⟨(hhe j (by omega)).1.turn T4.out (hne j (by omega) hjk).1, (hhe j (by omega)).2.turn T4.out (hne j (by omega) hjk).2⟩
        · have hjk : j ≠ k := by omega
          exact ⟨T4.out.row (hro j (by omega) h6).1 (hne j h6 hjk).1, T4.out.row (hro j (by omega) h6).2 (hne j h6 hjk).2⟩
        · rcases hy with h | h | h
          · exact .inl h
          · exact .inr ⟨k, hlt, .inl h⟩
          · exact .inr ⟨k, hlt, .inr h⟩
      case measure => simp [intOf]; omega
    · obtain rfl : k = S.length := by omega
      have HST := Lib.hid hst
      clear hst
      go_wp2_with fail
      go_ret
      exact ⟨by rw [HZ.out]; rfl, HST.out, HM.out⟩
set_option maxRecDepth 20000 in
set_option maxHeartbeats 16000000 in
theorem heldSlotS_own (base g : Nat) (f : SlW) (S : List SlN) (cap : Nat) (m : Int) (w : World) (hn : S.length ≤ 1048576) (hS : SlShort S) (hm0 : 0 ≤ m) (hm1 : m ≤ 1000000000) (h : SlSt w base g f S m S.length) :
    Calls Tryz.prog 89 #[.slice (some ⟨g, 0, none⟩) S.length cap, .int .i64 m] w fun e w' => e = .returned (.int .i64 (markAt S m S.length)) ∧ w = w' := by
  have HO := Lib.hid h
  have HS := Lib.hid hS
  have HB := Lib.hid (markAt_bound S hS m hm0)
  clear h hS
  go_enter Tryz.func89, Tryz.ntmps89
  go_wp2_with fail
  go_loop [5, 1] (fun i t' => ∃ k : Nat, ∃ z : Int, k ≤ S.length ∧ i = .int .i64 k ∧ z = markAt S m k ∧ t' = .int .i64 z) (fun i _ => S.length - (intOf i).toNat)
  case atStart => exact ⟨0, m, Nat.zero_le _, rfl, rfl, rfl⟩
  case round =>
    obtain ⟨k, z, hk, rfl, hz, rfl⟩ := hrel
    have HZ := Lib.hid hz
    obtain ⟨z0, z1⟩ : 0 ≤ z ∧ z ≤ 1125899906842624 - 33554432 := by rw [hz]; have := HB.out k hk; omega
    by_cases hlt : k < S.length
    · have hlt' : (k : Int) < S.length := by omega
      have hk0 : (0 : Int) ≤ k := by omega
      obtain ⟨⟨cs, hcs, hsz, hab, hmk⟩, hhe, -⟩ := HO.out
      obtain ⟨ea, eb⟩ := hab k hlt
      obtain ⟨e0, e2⟩ := hmk k hlt
      obtain ⟨ha, hb⟩ := hhe k hlt
      obtain ⟨ts0, ts1⟩ := HS.out k hlt
      rw [← hz] at e0 e2 ha hb
      clear hz
      have c0 := (hcs.cell (k * 4)).trans e0
      have c1 := (hcs.cell (k * 4 + 1)).trans ea
      have c2 := (hcs.cell (k * 4 + 2)).trans e2
      have c3 := (hcs.cell (k * 4 + 3)).trans eb
      have HN : markAt S m (k + 1) = markAt S m k + 1 + 8 * (S.getD k default).trusts.length + 1 + 2 * (S.getD k default).cells.length := rfl
      have HN := Lib.hid HN
      generalize (S.getD k default).trusts.length = st at c2 ha hb ts0 HN
      generalize (S.getD k default).cells.length = sc at hb ts1 HN
      have CA := Lib.hid (heldTr_own (f.a k) st (z + 1) w ts0 (by omega) (by omega) ha)
      have CB := Lib.hid (heldC_own (f.b k) sc (z + 1 + 8 * st + 1) w ts1 (by omega) (by omega) hb)
      have n1 : ¬ (z + 1 + 8 * (st : Int)) < 0 := by omega
      have n2 : ¬ (z + 1 + 8 * (st : Int) + 1 + 2 * (sc : Int)) < 0 := by omega
      clear hcs hsz hab hmk hhe ea eb e0 e2 ha hb
      generalize f.a k = va at c1 CA
      generalize f.b k = vb at c3 CB
      go_wp2_with fail
      refine CA.out.mono ?_; rintro e w2 ⟨rfl, rfl⟩
      go_wp2_with fail
      refine CB.out.mono ?_; rintro e w2 ⟨rfl, rfl⟩
      go_wp2_with fail
      go_round
      case rel => exact ⟨k + 1, _, by omega, by go_num, rfl, by rw [HN.out, ← HZ.out]⟩
      case measure => simp [intOf]; omega
    · obtain rfl : k = S.length := by omega
      clear hz
      go_wp2_with fail
      go_ret
      exact ⟨by rw [HZ.out]; rfl, rfl⟩
end Go.Proofs.YtgaecedhkbneaaaGreatDoor.Mx

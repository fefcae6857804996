import Derived.Test.YtgaecedhkbneaaaGreatG06
import Derived.Deep.OwnRows
import Derived.Deep.RegionWith
import Derived.Test.YtgaecedhkbneaaaGreatG05
import Derived.Test.YtgaecedhkbneaaaGreatG02
import Derived.Great.BuildSlice
namespace Go.Proofs.YtgaecedhkbneaaaGreat.Mx
open Go.ChangeShapes Go.WideShapes Go.ChangeAt Go.RowKit
set_option linter.unusedVariables false
set_option maxHeartbeats 4000000 in
theorem eqTrustS_same (A C : Option Addr) (L : List Tru) (cap cap' : Nat) (w : World) (hn : L.length ≤ maxLen) (hA : Sls truV 8 w w.heap.size A L) (hC : Sls truV 8 w w.heap.size C L) :
    Calls Tryz.prog 23 #[.slice A L.length cap, .slice C L.length cap'] w fun e w' => e = .returned (.bool true) ∧ Below w.heap.size w w' := by
  have hm := hn
  unfold maxLen at hm
  have HA := Lib.hid hA
  have HC := Lib.hid hC
  clear hA hC hn
  go_enter Tryz.func23, Tryz.ntmps23
  go_wp2_with fail
  go_loopw [5] (fun i wr => ∃ k : Nat, k ≤ L.length ∧ i = .int .i64 k ∧ Below w.heap.size w wr) (fun i _ => L.length - (intOf i).toNat)
  case atStart => exact ⟨0, Nat.zero_le _, rfl, Below.refl _ _⟩
  case round =>
    obtain ⟨k, hk, rfl, hbel⟩ := hrel
    have HB := Lib.hid hbel
    clear hbel
    by_cases hlt : k < L.length
    · obtain ⟨b, off, rfl, hb, c0, c1, c2, c3, c4, c5, c6, c7⟩ := Trs.at_ (HA.out.below HB.out.drew (Nat.le_refl _)) hlt
      obtain ⟨b', off', rfl, hb', d0, d1, d2, d3, d4, d5, d6, d7⟩ := Trs.at_ (HC.out.below HB.out.drew (Nat.le_refl _)) hlt
      have hlt' : (k : Int) < L.length := by omega
      have hk0 : (0 : Int) ≤ k := by omega
      generalize L.getD k default = T at c0 c1 c2 c3 c4 c5 c6 c7 d0 d1 d2 d3 d4 d5 d6 d7
      go_wp2_with fail
      go_region_with (go_at_call 59; refine (eqTrust_same T.clock T.epoch T.cursor T.read T.written T.nread T.nwritten T.failed _).mono ?_; rintro e wx ⟨rfl, bx⟩)
      all_goals
        have BX := Lib.hid (HB.out.drew.trans (bx.mono HB.out.drew.size))
        clear bx c0 c1 c2 c3 c4 c5 c6 c7 d0 d1 d2 d3 d4 d5 d6 d7
        go_wp2_with fail
        go_roundw
        case rel => exact ⟨k + 1, by omega, by go_num, BX.out⟩
        case measure => simp [intOf]; omega
    · go_wp2_with fail
      go_ret
      exact ⟨rfl, HB.out⟩
def MarkT (w : World) (g n : Nat) (m : Int) : Prop := ∀ j, j < n → w.cell? ⟨g, j * 8, none⟩ = some (.int .i64 (m + 8 * j)) ∧ w.cell? ⟨g, j * 8 + 1, none⟩ = some (.int .i64 (m + 8 * j + 1)) ∧ w.cell? ⟨g, j * 8 + 2, none⟩ = some (.int .i64 (m + 8 * j + 2)) ∧ w.cell? ⟨g, j * 8 + 3, none⟩ = some (.int .i64 (m + 8 * j + 3)) ∧ w.cell? ⟨g, j * 8 + 4, none⟩ = some (.int .i64 (m + 8 * j + 4)) ∧ w.cell? ⟨g, j * 8 + 5, none⟩ = some (.int .i64 (m + 8 * j + 5)) ∧ w.cell? ⟨g, j * 8 + 6, none⟩ = some (.int .i64 (m + 8 * j + 6)) ∧ w.cell? ⟨g, j * 8 + 7, none⟩ = some (.bool ((m + 8 * j + 7) % 3 == 0))
theorem MarkT.block {w u : World} {g n : Nat} {m : Int} (h : MarkT w g n m) (hb : u.heap[g]? = w.heap[g]?) : MarkT u g n m := by
  have f : ∀ o, u.cell? ⟨g, o, none⟩ = w.cell? ⟨g, o, none⟩ := fun o => by simp [World.cell?, hb]
  intro j hj
  obtain ⟨h0, h1, h2, h3, h4, h5, h6, h7⟩ := h j hj
  exact ⟨(f _).trans h0, (f _).trans h1, (f _).trans h2, (f _).trans h3, (f _).trans h4, (f _).trans h5, (f _).trans h6, (f _).trans h7⟩
theorem set8_off (ds : Array Value) (b i : Nat) (v0 v1 v2 v3 v4 v5 v6 v7 : Value) (h : i < b) : ((((((((ds.setIfInBounds (b) v0).setIfInBounds (b + 1) v1).setIfInBounds (b + 2) v2).setIfInBounds (b + 3) v3).setIfInBounds (b + 4) v4).setIfInBounds (b + 5) v5).setIfInBounds (b + 6) v6).setIfInBounds (b + 7) v7)[i]? = ds[i]? := by
  rw [Array.getElem?_setIfInBounds_ne (by omega), Array.getElem?_setIfInBounds_ne (by omega), Array.getElem?_setIfInBounds_ne (by omega), Array.getElem?_setIfInBounds_ne (by omega), Array.getElem?_setIfInBounds_ne (by omega), Array.getElem?_setIfInBounds_ne (by omega), Array.getElem?_setIfInBounds_ne (by omega), Array.getElem?_setIfInBounds_ne (by omega)]
theorem set8_at0 (ds : Array Value) (b : Nat) (v0 v1 v2 v3 v4 v5 v6 v7 : Value) (h : b + 8 ≤ ds.size) : ((((((((ds.setIfInBounds (b) v0).setIfInBounds (b + 1) v1).setIfInBounds (b + 2) v2).setIfInBounds (b + 3) v3).setIfInBounds (b + 4) v4).setIfInBounds (b + 5) v5).setIfInBounds (b + 6) v6).setIfInBounds (b + 7) v7)[b]? = some v0 := by
  rw [Array.getElem?_setIfInBounds_ne (by omega), Array.getElem?_setIfInBounds_ne (by omega), Array.getElem?_setIfInBounds_ne (by omega), Array.getElem?_setIfInBounds_ne (by omega), Array.getElem?_setIfInBounds_ne (by omega), Array.getElem?_setIfInBounds_ne (by omega), Array.getElem?_setIfInBounds_ne (by omega), Array.getElem?_setIfInBounds_self_of_lt (by omega)]
theorem set8_at1 (ds : Array Value) (b : Nat) (v0 v1 v2 v3 v4 v5 v6 v7 : Value) (h : b + 8 ≤ ds.size) : ((((((((ds.setIfInBounds (b) v0).setIfInBounds (b + 1) v1).setIfInBounds (b + 2) v2).setIfInBounds (b + 3) v3).setIfInBounds (b + 4) v4).setIfInBounds (b + 5) v5).setIfInBounds (b + 6) v6).setIfInBounds (b + 7) v7)[b + 1]? = some v1 := by
  rw [Array.getElem?_setIfInBounds_ne (by omega), Array.getElem?_setIfInBounds_ne (by omega), Array.getElem?_setIfInBounds_ne (by omega), Array.getElem?_setIfInBounds_ne (by omega), Array.getElem?_setIfInBounds_ne (by omega), Array.getElem?_setIfInBounds_ne (by omega), Array.getElem?_setIfInBounds_self_of_lt (by simp only [Array.size_setIfInBounds]; omega)]
theorem set8_at2 (ds : Array Value) (b : Nat) (v0 v1 v2 v3 v4 v5 v6 v7 : Value) (h : b + 8 ≤ ds.size) : ((((((((ds.setIfInBounds (b) v0).setIfInBounds (b + 1) v1).setIfInBounds (b + 2) v2).setIfInBounds (b + 3) v3).setIfInBounds (b + 4) v4).setIfInBounds (b + 5) v5).setIfInBounds (b + 6) v6).setIfInBounds (b + 7) v7)[b + 2]? = some v2 := by
  rw [Array.getElem?_setIfInBounds_ne (by omega), Array.getElem?_setIfInBounds_ne (by omega), Array.getElem?_setIfInBounds_ne (by omega), Array.getElem?_setIfInBounds_ne (by omega), Array.getElem?_setIfInBounds_ne (by omega), Array.getElem?_setIfInBounds_self_of_lt (by simp only [Array.size_setIfInBounds]; omega)]
theorem set8_at3 (ds : Array Value) (b : Nat) (v0 v1 v2 v3 v4 v5 v6 v7 : Value) (h : b + 8 ≤ ds.size) : ((((((((ds.setIfInBounds (b) v0).setIfInBounds (b + 1) v1).setIfInBounds (b + 2) v2).setIfInBounds (b + 3) v3).setIfInBounds (b + 4) v4).setIfInBounds (b + 5) v5).setIfInBounds (b + 6) v6).setIfInBounds (b + 7) v7)[b + 3]? = some v3 := by
  rw [Array.getElem?_setIfInBounds_ne (by omega), Array.getElem?_setIfInBounds_ne (by omega), Array.getElem?_setIfInBounds_ne (by omega), Array.getElem?_setIfInBounds_ne (by omega), Array.getElem?_setIfInBounds_self_of_lt (by simp only [Array.size_setIfInBounds]; omega)]
theorem set8_at4 (ds : Array Value) (b : Nat) (v0 v1 v2 v3 v4 v5 v6 v7 : Value) (h : b + 8 ≤ ds.size) : ((((((((ds.setIfInBounds (b) v0).setIfInBounds (b + 1) v1).setIfInBounds (b + 2) v2).setIfInBounds (b + 3) v3).setIfInBounds (b + 4) v4).setIfInBounds (b + 5) v5).setIfInBounds (b + 6) v6).setIfInBounds (b + 7) v7)[b + 4]? = some v4 := by
  rw [Array.getElem?_setIfInBounds_ne (by omega), Array.getElem?_setIfInBounds_ne (by omega), Array.getElem?_setIfInBounds_ne (by omega), Array.getElem?_setIfInBounds_self_of_lt (by simp only [Array.size_setIfInBounds]; omega)]
theorem set8_at5 (ds : Array Value) (b : Nat) (v0 v1 v2 v3 v4 v5 v6 v7 : Value) (h : b + 8 ≤ ds.size) : ((((((((ds.setIfInBounds (b) v0).setIfInBounds (b + 1) v1).setIfInBounds (b + 2) v2).setIfInBounds (b + 3) v3).setIfInBounds (b + 4) v4).setIfInBounds (b + 5) v5).setIfInBounds (b + 6) v6).setIfInBounds (b + 7) v7)[b + 5]? = some v5 := by
  rw [Array.getElem?_setIfInBounds_ne (by omega), Array.getElem?_setIfInBounds_ne (by omega), Array.getElem?_setIfInBounds_self_of_lt (by simp only [Array.size_setIfInBounds]; omega)]
theorem set8_at6 (ds : Array Value) (b : Nat) (v0 v1 v2 v3 v4 v5 v6 v7 : Value) (h : b + 8 ≤ ds.size) : ((((((((ds.setIfInBounds (b) v0).setIfInBounds (b + 1) v1).setIfInBounds (b + 2) v2).setIfInBounds (b + 3) v3).setIfInBounds (b + 4) v4).setIfInBounds (b + 5) v5).setIfInBounds (b + 6) v6).setIfInBounds (b + 7) v7)[b + 6]? = some v6 := by
  rw [Array.getElem?_setIfInBounds_ne (by omega), Array.getElem?_setIfInBounds_self_of_lt (by simp only [Array.size_setIfInBounds]; omega)]
theorem set8_at7 (ds : Array Value) (b : Nat) (v0 v1 v2 v3 v4 v5 v6 v7 : Value) (h : b + 8 ≤ ds.size) : ((((((((ds.setIfInBounds (b) v0).setIfInBounds (b + 1) v1).setIfInBounds (b + 2) v2).setIfInBounds (b + 3) v3).setIfInBounds (b + 4) v4).setIfInBounds (b + 5) v5).setIfInBounds (b + 6) v6).setIfInBounds (b + 7) v7)[b + 7]? = some v7 := by
  rw [Array.getElem?_setIfInBounds_self_of_lt (by simp only [Array.size_setIfInBounds]; omega)]
theorem markTrustS_nil (A : Option Addr) (c : Nat) (m : Int) (w : World) : Calls Tryz.prog 28 #[.slice A 0 c, .int .i64 m] w fun e w' => e = .returned (.int .i64 m) ∧ w = w' := by
  go_enter Tryz.func28, Tryz.ntmps28
  go_wp2_with fail
  go_loop [5, 1] (fun i t => i = .int .i64 0 ∧ t = .int .i64 m) (fun _ _ => 0)
  case atStart => exact ⟨rfl, rfl⟩
  case round =>
    obtain ⟨rfl, rfl⟩ := hrel
    go_wp2_with fail
    go_ret
    exact ⟨rfl, rfl⟩
theorem heldTrustS_nil (A : Option Addr) (c : Nat) (m : Int) (w : World) : Calls Tryz.prog 32 #[.slice A 0 c, .int .i64 m] w fun e w' => e = .returned (.int .i64 m) ∧ w = w' := by
  go_enter Tryz.func32, Tryz.ntmps32
  go_wp2_with fail
  go_loop [5, 1] (fun i t => i = .int .i64 0 ∧ t = .int .i64 m) (fun _ _ => 0)
  case atStart => exact ⟨rfl, rfl⟩
  case round =>
    obtain ⟨rfl, rfl⟩ := hrel
    go_wp2_with fail
    go_ret
    exact ⟨rfl, rfl⟩
def flagN (b : Bool) : Int := if b then 1 else 0
def macRow (t : Tru) : List Int := [t.clock, t.epoch, t.cursor, t.read, t.written, t.nread, t.nwritten, flagN t.failed]
def macList (count : Int) (L : List Tru) : List Int := [3, count, (L.length : Int)] ++ L.flatMap macRow
noncomputable def macOf (key : Int) (l : List Int) (count : Int) (L : List Tru) : Int :=
  open Classical in if planOk key l then mixOf key (macList count L) else -1
def TruI (t : Tru) : Prop := I64 t.clock ∧ I64 t.epoch ∧ I64 t.cursor ∧ I64 t.read ∧ I64 t.written ∧ I64 t.nread ∧ I64 t.nwritten
def TrusI (L : List Tru) : Prop := ∀ i, i < L.length → TruI (L.getD i default)
theorem flagN_i64 (b : Bool) : I64 (flagN b) := by cases b <;> (unfold flagN I64; simp)
theorem I64s.append {l m : List Int} (h : I64s l) (h2 : I64s m) : I64s (l ++ m) := by
  intro i hi
  rw [List.getD_eq_getElem?_getD]
  rcases Nat.lt_or_ge i l.length with hl | hl
  · rw [List.getElem?_append_left hl, ← List.getD_eq_getElem?_getD]; exact h i hl
  · rw [List.getElem?_append_right hl, ← List.getD_eq_getElem?_getD]; exact h2 _ (by rw [List.length_append] at hi; omega)
theorem macRow_i64 {t : Tru} (h : TruI t) : I64s (macRow t) := by
  obtain ⟨a, b, c, d, e, f, g⟩ := h
  have hf := flagN_i64 t.failed
  exact I64s.cons a.1 a.2 (I64s.cons b.1 b.2 (I64s.cons c.1 c.2 (I64s.cons d.1 d.2 (I64s.cons e.1 e.2 (I64s.cons f.1 f.2 (I64s.cons g.1 g.2 (I64s.cons hf.1 hf.2 I64s.nil)))))))
theorem takeT_succ {L : List Tru} {k : Nat} (h : k < L.length) : (L.take (k + 1)).flatMap macRow = (L.take k).flatMap macRow ++ macRow (L.getD k default) := by
  rw [List.take_succ_eq_append_getElem h, List.flatMap_append, List.getD_eq_getElem?_getD, List.getElem?_eq_getElem h]; simp
theorem macRow_len (L : List Tru) : (L.flatMap macRow).length = L.length * 8 := by
  induction L with
  | nil => rfl
  | cons t L ih => rw [List.flatMap_cons, List.length_append, ih, List.length_cons]; show 8 + _ = _; omega
theorem Row.below {w w' : World} {base t : Nat} {v : Value} {zs : List Int} (h : Row w base t v zs) (hb : Below w.heap.size w w') : Row w' base t v zs :=
  ⟨h.1.kept (below_gb hb none) (by cases e : v.ownBlock with | none => exact .inl rfl | some k => exact .inr (by intro e2; cases e2)), h.2⟩
theorem Kept.grownO {b w w' : World} {L : List Box} {r : Option Nat} (h : Kept b L w) (hg : w.grownBy w' r) (hr : ∀ k, r = some k → b.heap.size ≤ k ∧ ∀ x ∈ L, x.1 ≠ k) : Kept b L w' :=
  ⟨h.1.trans ((gr_below (B := b.heap.size) hg h.1.size (fun k hk => (hr k hk).1))), fun x hx => ⟨(h.2 x hx).1, (h.2 x hx).2.grown hg (by intro e; exact (hr x.1 e.symm).2 x hx rfl)⟩⟩
theorem Row.lit (w : World) (base : Nat) (zs : List Int) (hb : base ≤ w.heap.size) (hm : zs.length ≤ maxLen) (hi : I64s zs) : Row (w.alloc (.cells (zs.map (Value.int .i64)).toArray 2)) base 2 (.slice (some ⟨w.heap.size, 0, none⟩) zs.length zs.length) zs :=
  ⟨⟨by simp, .inr ⟨w.heap.size, zs.length, (zs.map (Value.int .i64)).toArray, rfl, hb, heap_alloc_last w _, Nat.le_refl _, hm, by simp, by simp only [Nat.mul_one]; rw [List.take_of_length_le (by simp)]⟩⟩, hi⟩
theorem l1Flag_calls (b : Bool) (w : World) : Calls Tryz.prog 68 #[.bool b] w fun e w' => e = .returned (.int .i64 (flagN b)) ∧ w = w' := by
  cases b
  all_goals
    go_enter Tryz.func68, Tryz.ntmps68
    go_wp2
    go_ret
    exact ⟨rfl, rfl⟩
def MacC (b : World) (L : List Box) (base : Nat) (p : Value) (zs ys : List Int) (cs : Array Value) (D : Nat → Bool) (γ : Nat → Value) (u : World) : Prop :=
  Kept b L u ∧ base ≤ u.heap.size ∧ (D 19 = false → Row u base 2 p zs) ∧ (D 18 = true → D 19 = false → ∃ g, γ 18 = .slice (some ⟨g, 0, none⟩) 8 8 ∧ CellsAt u g 2 cs) ∧ (D 19 = true → Row u base 2 (γ 19) (zs ++ ys)) ∧ (D 19 = true → D 18 = true)
theorem MacC.loc {b u : World} {L : List Box} {base : Nat} {p : Value} {zs ys : List Int} {cs : Array Value} {D : Nat → Bool} {γ γ' : Nat → Value} (ha : ∀ i, D i = true → γ i = γ' i) (h : MacC b L base p zs ys cs D γ u) : MacC b L base p zs ys cs D γ' u := by
  obtain ⟨h1, h2, h3, h4, h5, h6⟩ := h
  refine ⟨h1, h2, h3, fun d e => ?_, fun d => ?_, h6⟩
  · rw [← ha _ d]; exact h4 d e
  · rw [← ha _ d]; exact h5 d
set_option maxRecDepth 20000 in
set_option maxHeartbeats 4000000 in
theorem specMac_calls (key count : Int) (A C : Option Addr) (l : List Int) (cap : Nat) (L : List Tru) (cap2 : Nat) (w : World) (hn : l.length ≤ maxLen) (hA : Ints w .i64 w.heap.size A l) (hN : L.length ≤ 1048576) (hC : Trs w w.heap.size C L) (hI : TrusI L) (hc0 : I64 count) :
    Calls Tryz.prog 45 #[.agg (pA key A l.length cap), .int .i64 count, .slice C L.length cap2] w fun e w' => e = .returned (.int .i64 (macOf key l count L)) ∧ Below w.heap.size w w' := by
  have K0 := Lib.hid (show Kept w [(w.heap.size, 26, (pA key A l.length cap))] _ from (Kept.refl w).put1 _ _ (pA key A l.length cap) rfl)
  have PO := Lib.hid (fun (u : World) (hb : Below w.heap.size w u) => specPlanOk_calls key A l cap u hn ((hA.below hb (Nat.le_refl _)).more hb.size))
  have HC := Lib.hid hC
  have HI := Lib.hid hI
  unfold macOf
  clear hA hC hn hI
  by_cases hp : planOk key l
  · rw [if_pos hp]
    rw [okB_yes hp] at PO
    clear hp
    go_enter Tryz.func45, Tryz.ntmps45
    go_wp2_with fail
    refine (PO.out _ K0.out.1).mono ?_; rintro e w1 ⟨rfl, b1⟩
    have h1 := K0.out.below b1
    have H1 := Lib.hid h1
    clear b1 K0
    obtain ⟨kc0, kf0, -⟩ := h1.rd
    have hs1 : w.heap.size + 1 ≤ w1.heap.size := h1.lt (x := (w.heap.size, 26, (pA key A l.length cap))) (by simp)
    have RW := Lib.hid (Row.lit w1 (w.heap.size + 1) [3, count, (L.length : Int)] hs1 (by simp [maxLen]) (I64s.cons (by omega) (by omega) (I64s.cons hc0.1 hc0.2 (I64s.cons (by omega) (by omega) I64s.nil))))
    clear h1 hc0
    go_wp2_with fail
    clear kc0 kf0
    go_loopw [7, 8] (fun p i wr => ∃ (k : Nat) (q : Value), q = p ∧ k ≤ L.length ∧ i = .int .i64 k ∧ Row wr (w.heap.size + 1) 2 p ([3, count, (L.length : Int)] ++ (L.take k).flatMap macRow) ∧ Kept w [(w.heap.size, 26, (pA key A l.length cap))] wr) (fun _ i _ => L.length - (intOf i).toNat)
    case atStart => exact ⟨0, _, rfl, Nat.zero_le _, rfl, RW.out, H1.out.below ((Below.refl _ _).alloc (Nat.le_refl _) _)⟩
    case round =>
      obtain ⟨k, p, rfl, hk, rfl, hrow, hz⟩ := hrel
      by_cases hlt : k < L.length
      · obtain ⟨b, off, rfl, hb, hc⟩ := HC.out.at_ hlt
        have hlt' : (k : Int) < L.length := by omega
        have hk0 : (0 : Int) ≤ k := by omega
        have hti := HI.out k hlt
        have HS := Lib.hid (takeT_succ hlt)
        have hln := macRow_len (L.take k)
        rw [List.length_take, Nat.min_eq_left hk] at hln
        have HL := Lib.hid hln
        clear hln
        generalize L.getD k default = t at hc hti HS
        generalize (L.take k).flatMap macRow = ms at hrow HS HL
        generalize hzs : [3, count, (L.length : Int)] ++ ms = zs at hrow
        have HZ := Lib.hid hzs
        have hzl : zs.length = 3 + k * 8 := by rw [← hzs, List.length_append, HL.out]; rfl
        clear hzs
        have HZL := Lib.hid hzl
        clear hzl
        have TI := Lib.hid hti
        clear hti
        have hs2 : w.heap.size + 1 ≤ wr.heap.size := hz.lt (x := (w.heap.size, 26, (pA key A l.length cap))) (by simp)
        obtain ⟨c0, c1, c2, c3, c4, c5, c6, c7⟩ := hc.below hz.1 hb
        go_upto_region 8 with fail
        clear c0 c1 c2 c3 c4 c5 c6 c7
        have hne : ∀ g, p.ownBlock = some g → w.heap.size + 1 ≤ g ∧ g < wr.heap.size := fun g hg => hrow.1.lt g hg
        have hz2 := hz.put1 wr.heap.size 43 (tR t) rfl
        have hr2 : Row (wr.alloc (.cells (tR t) 43)) (w.heap.size + 1) 2 p zs := hrow.below ((Below.refl _ _).alloc (Nat.le_refl _) _)
        have HM := Lib.hid (show ∀ γ, MacC w [(wr.heap.size, 43, (tR t)), (w.heap.size, 26, (pA key A l.length cap))] (w.heap.size + 1) p zs (macRow t) #[.int .i64 t.clock, .int .i64 t.epoch, .int .i64 t.cursor, .int .i64 t.read, .int .i64 t.written, .int .i64 t.nread, .int .i64 t.nwritten, .int .i64 (flagN t.failed)] (fun _ => false) γ (wr.alloc (.cells (tR t) 43)).drew from fun γ => ⟨hz2.drew, by simp; omega, fun _ => ⟨hr2.1.drew, hr2.2⟩, fun e => (by cases e), fun e => (by cases e), fun e => (by cases e)⟩)
        clear hrow hz hz2 hr2
        have hlf : L.length ≤ 1048576 := hN
        refine wp_region_free [false, false, false, false, false, false, false, false, false, false, false, false, false, false, false, false, false, true, true, true, false] (fun i v => (i = 17 → v = .int .i64 (flagN t.failed)) ∧ (i = 18 → ∃ g : Nat, v = .slice (some ⟨g, 0, none⟩) 8 8)) (fun D γ u => MacC w [(wr.heap.size, 43, (tR t)), (w.heap.size, 26, (pA key A l.length cap))] (w.heap.size + 1) p zs (macRow t) #[.int .i64 t.clock, .int .i64 t.epoch, .int .i64 t.cursor, .int .i64 t.read, .int .i64 t.written, .int .i64 t.nread, .int .i64 t.nwritten, .int .i64 (flagN t.failed)] D γ u) (by kernel_rfl) (by kernel_rfl) (fun γ => by kernel_rfl) (fun D γ γ' w ha h => h.loc ha) (fun i => ?inh) HM.out (fun γ hγ => ?_)
        case inh =>
          by_cases h1 : i = 17
          · subst h1; exact ⟨_, fun _ => rfl, fun e => by cases e⟩
          · exact ⟨.slice (some ⟨0, 0, none⟩) 8 8, fun e => absurd e h1, fun _ => ⟨0, rfl⟩⟩
        have g17 : γ 17 = .int .i64 (flagN t.failed) := (hγ 17 rfl).1 rfl
        obtain ⟨gb, g18⟩ := (hγ 18 rfl).2 rfl
        obtain ⟨vv, g19⟩ : ∃ v, v = γ 19 := ⟨_, rfl⟩
        apply Exists.intro
        refine ⟨fun D => ?_, ?_, ?_⟩
        · simp only [hushL, cond_true, cond_false, Nat.reduceAdd, g17, g18, ← g19]
          iterate 21 (first
            | go_big_quiet_skip
            | (go_big_quiet_want
               go_big_quiet_op
               first
                 | go_big_quiet_on
                 | (apply Exists.intro
                    refine ⟨fun u hu => ?_, ?_⟩
                    · first
                        | with_reducible rfl
                        | (obtain ⟨kc0, kf0, kc1, kf1, -⟩ := hu.1.rd; go_simp; first | done | with_reducible rfl)
                    go_big_quiet_on)))
          exact wpQuiet_nil rfl
        · simp only [freeOk, Nat.reduceAdd]
          refine ⟨fun D u hD hd hu => ?_, fun D u hD hd hu => ?_, fun D u hD hd hu => ?_, trivial⟩
          · refine steps_call ((l1Flag_calls t.failed u).mono fun e w' ⟨he, hw⟩ => ⟨_, he, ⟨fun _ => rfl, fun e => by cases e⟩, ?_⟩) rfl rfl rfl rfl (by kernel_rfl)
            subst hw
            exact MacC.loc (γ := γ) (D := setD D 17) (fun i hi => by unfold setG; by_cases h : i = 17; rotate_left; rw [if_neg h]; subst h; rw [if_pos rfl]; exact g17) ⟨hu.1, hu.2.1, fun e => hu.2.2.1 (by simpa [setD] using e), fun e1 e2 => hu.2.2.2.1 (by simpa [setD] using e1) (by simpa [setD] using e2), fun e => hu.2.2.2.2.1 (by simpa [setD] using e), fun e => by have := hu.2.2.2.2.2 (by simpa [setD] using e); simp [setD, this]⟩
          · have e2 : D 19 = false := by
              cases h19 : D 19 with
              | false => rfl
              | true => have := hu.2.2.2.2.2 h19; rw [hD] at this; cases this
            have hrow := hu.2.2.1 e2
            refine steps_build 22 2 8 1 8 (.int .i64 0) _ #[.int .i64 t.clock, .int .i64 t.epoch, .int .i64 t.cursor, .int .i64 t.read, .int .i64 t.written, .int .i64 t.nread, .int .i64 t.nwritten, .int .i64 (flagN t.failed)] rfl Tryz.underlying22 info_i64 (by omega) (by omega) (by simp [Instr.fill, go_sem]) ⟨⟨fun e => (by cases e), fun _ => ⟨_, rfl⟩⟩, ?_⟩
            have ha : Below u.heap.size u (u.alloc (.cells #[.int .i64 t.clock, .int .i64 t.epoch, .int .i64 t.cursor, .int .i64 t.read, .int .i64 t.written, .int .i64 t.nread, .int .i64 t.nwritten, .int .i64 (flagN t.failed)] 2)) := (Below.refl _ _).alloc (Nat.le_refl _) _
            exact ⟨hu.1.below ha, Nat.le_trans hu.2.1 ha.size, fun _ => hrow.below ha, fun _ _ => ⟨_, by unfold setG; rw [if_pos rfl], CellsAt.new u 2 #[.int .i64 t.clock, .int .i64 t.epoch, .int .i64 t.cursor, .int .i64 t.read, .int .i64 t.written, .int .i64 t.nread, .int .i64 t.nwritten, .int .i64 (flagN t.failed)]⟩, fun e => by (simp [setD, e2] at e), fun _ => by simp [setD]⟩
          · have dk := hd { on := 18, ground := Ground.data } (by simp) rfl rfl
            obtain ⟨g0, e1, hcg⟩ := hu.2.2.2.1 dk hD
            obtain rfl : gb = g0 := by rw [g18] at e1; simpa using e1
            have hrow := hu.2.2.1 hD
            have hnews := World.news_of_block (w := u) (B := gb) (cs := #[.int .i64 t.clock, .int .i64 t.epoch, .int .i64 t.cursor, .int .i64 t.read, .int .i64 t.written, .int .i64 t.nread, .int .i64 t.nwritten, .int .i64 (flagN t.failed)]) (t := 2) hcg
            refine steps_append _ _ 22 rfl (w.heap.size + 1) 2 1 8 zs.length (.int .i64 0) p (zs.map (Value.int .i64)) (some ⟨gb, 0, none⟩) 8 8 (#[.int .i64 t.clock, .int .i64 t.epoch, .int .i64 t.cursor, .int .i64 t.read, .int .i64 t.written, .int .i64 t.nread, .int .i64 t.nwritten, .int .i64 (flagN t.failed)] : Array Value).toList Tryz.underlying22 info_i64 rfl (by omega) rfl hrow.1 rfl rfl (fun j v hv => ⟨_, rfl, hnews j v hv⟩) (by intro v hv; simp at hv; rcases hv with rfl | rfl | rfl | rfl | rfl | rfl | rfl | rfl <;> rfl) (by rw [HZL.out]; unfold maxLen; omega) (by rw [HZL.out]; omega) hu.2.1 ?_
            intro v' w' hown hg _
            have hk2 := hu.1.grownO hg (fun g e => ⟨by have := (hne g e).1; omega, by intro y hy; simp at hy; rcases hy with rfl | rfl <;> (have := hne g e; simp; omega)⟩)
            exact ⟨⟨fun e => (by cases e), fun e => (by cases e)⟩, hk2, Nat.le_trans hu.2.1 hg.size, fun e => by (simp [setD] at e), fun _ e => by (simp [setD] at e), fun _ => ⟨by unfold setG; rw [if_pos rfl, List.length_append, List.map_append]; exact hown, I64s.append hrow.2 (macRow_i64 TI.out)⟩, fun _ => by simp [setD, dk]⟩
        · intro D u hD hu
          have hrw := hu.2.2.2.2.1 (hD 19 (by simp) rfl)
          rw [← g19] at hrw
          have hkp := hu.1.sub (L' := [(w.heap.size, 26, (pA key A l.length cap))]) (by intro y hy; simp at hy ⊢; right; exact hy)
          clear hu hD
          go_wp2_with fail
          go_roundw
          case rel => exact ⟨k + 1, _, rfl, by omega, by go_num, by have h := hrw; rw [← HZ.out] at h; rw [HS.out]; simpa [List.append_assoc] using h, hkp⟩
          case measure => simp [intOf]; omega
      · have hk' : k = L.length := by omega
        subst hk'
        have hr2 := hrow
        rw [List.take_length] at hr2
        obtain ⟨B, c, rfl, hI⟩ := hr2.reads
        have hlen : ([3, count, (L.length : Int)] ++ L.flatMap macRow).length = 3 + L.length * 8 := by rw [List.length_append, macRow_len]; rfl
        have MX := Lib.hid (fun u hI => specMix_calls key B ([3, count, (L.length : Int)] ++ L.flatMap macRow) c wr.heap.size u (by rw [hlen]; unfold maxLen; omega) hI hr2.2)
        rw [show mixOf key ([3, count, (L.length : Int)] ++ L.flatMap macRow) = mixOf key (macList count L) from rfl] at MX
        have HIN := Lib.hid hI
        have HZ := Lib.hid hz
        have hne : ¬ (L.length : Int) < L.length := by omega
        obtain ⟨mx, hmx⟩ : ∃ m, m = mixOf key (macList count L) := ⟨_, rfl⟩
        rw [← hmx] at MX
        have HMX := Lib.hid hmx
        clear hmx
        generalize ([3, count, (L.length : Int)] ++ L.flatMap macRow).length = zl at MX
        clear hrow hr2 hI
        obtain ⟨kc0, kf0, -⟩ := hz.rd
        clear hz
        go_wp2_with fail
        refine (MX.out _ HIN.out).mono ?_; rintro e w2 ⟨rfl, rfl⟩
        go_wp2_with fail
        go_ret
        exact ⟨by rw [← HMX.out]; rfl, HZ.out.1⟩
  · rw [if_neg hp]
    rw [okB_no hp] at PO
    clear hp
    go_enter Tryz.func45, Tryz.ntmps45
    go_wp2_with fail
    refine (PO.out _ K0.out.1).mono ?_; rintro e w1 ⟨rfl, b1⟩
    have h1 := K0.out.below b1
    clear b1 K0
    go_wp2_with fail
    go_ret
    exact ⟨rfl, h1.1⟩
def CelAt (w : World) (b off : Nat) (t : Ce) : Prop := w.cell? ⟨b, off, none⟩ = some (.int .i64 t.1) ∧ w.cell? ⟨b, off + 1, none⟩ = some (.int .i64 t.2)
theorem Cls.at_ {w : World} {B : Nat} {A : Option Addr} {L : List Ce} {k : Nat} (h : Cls w B A L) (hk : k < L.length) : ∃ b off, A = some ⟨b, off, none⟩ ∧ b < B ∧ CelAt w b (off + k * 2) (L.getD k default) := by
  obtain ⟨b, off, e, hb, hc⟩ := h k hk
  exact ⟨b, off, e, hb, hc 0 (by omega), hc 1 (by omega)⟩
def cellsOk (key : Int) (l : List Int) (L : List Ce) : Prop := (∀ i, i < L.length → isCell (L.getD i default).1 (L.getD i default).2) ∧ (L.length : Int) = sectorsOf key l
structure SlN where
  count : Int
  trusts : List Tru
  mac : Int
  cells : List Ce
instance : Inhabited SlN := ⟨⟨0, [], 0, []⟩⟩
def SlN.Fits (s : SlN) : Prop := s.trusts.length ≤ 1048576 ∧ s.cells.length ≤ 1048576 ∧ TrusI s.trusts ∧ I64 s.count
def SlR (w : World) (Bd : Nat) (B : Option Addr) (tc : Nat) (C : Option Addr) (cc : Nat) (s : SlN) : Prop := Trs w Bd B s.trusts ∧ Cls w Bd C s.cells
def SlotAt (w : World) (Bd b off : Nat) (s : SlN) : Prop :=
  ∃ B tc C cc, w.cell? ⟨b, off, none⟩ = some (.int .i64 s.count) ∧ w.cell? ⟨b, off + 1, none⟩ = some (.slice B s.trusts.length tc) ∧ w.cell? ⟨b, off + 2, none⟩ = some (.int .i64 s.mac) ∧ w.cell? ⟨b, off + 3, none⟩ = some (.slice C s.cells.length cc) ∧ SlR w Bd B tc C cc s
def Slots (w : World) (Bd : Nat) (A : Option Addr) (S : List SlN) : Prop := ∀ i, i < S.length → ∃ b off, A = some ⟨b, off, none⟩ ∧ b < Bd ∧ SlotAt w Bd b (off + i * 4) (S.getD i default)
theorem SlR.below {w u : World} {Bd D : Nat} {B C : Option Addr} {tc cc : Nat} {s : SlN} (h : SlR w Bd B tc C cc s) (hb : Below D w u) (hD : Bd ≤ D) : SlR u Bd B tc C cc s := ⟨h.1.below hb hD, h.2.below hb hD⟩
theorem SlR.more {w : World} {Bd D : Nat} {B C : Option Addr} {tc cc : Nat} {s : SlN} (h : SlR w Bd B tc C cc s) (hD : Bd ≤ D) : SlR w D B tc C cc s := ⟨h.1.more hD, h.2.more hD⟩
theorem SlotAt.below {w u : World} {Bd D b off : Nat} {s : SlN} (h : SlotAt w Bd b off s) (hb : Below D w u) (hD : Bd ≤ D) (hlt : b < Bd) : SlotAt u Bd b off s := by
  obtain ⟨B, tc, C, cc, c0, c1, c2, c3, hr⟩ := h
  have f := fun o => hb.cell (p := ⟨b, o, none⟩) (Nat.lt_of_lt_of_le hlt hD)
  exact ⟨B, tc, C, cc, (f _).trans c0, (f _).trans c1, (f _).trans c2, (f _).trans c3, hr.below hb hD⟩
theorem SlotAt.more {w : World} {Bd D b off : Nat} {s : SlN} (h : SlotAt w Bd b off s) (hD : Bd ≤ D) : SlotAt w D b off s := by
  obtain ⟨B, tc, C, cc, c0, c1, c2, c3, hr⟩ := h
  exact ⟨B, tc, C, cc, c0, c1, c2, c3, hr.more hD⟩
theorem Slots.below {w u : World} {Bd D : Nat} {A : Option Addr} {S : List SlN} (h : Slots w Bd A S) (hb : Below D w u) (hD : Bd ≤ D) : Slots u Bd A S := by
  intro i hi
  obtain ⟨b, off, e, hlt, hs⟩ := h i hi
  exact ⟨b, off, e, hlt, hs.below hb hD hlt⟩
theorem Slots.more {w : World} {Bd D : Nat} {A : Option Addr} {S : List SlN} (h : Slots w Bd A S) (hD : Bd ≤ D) : Slots w D A S := by
  intro i hi
  obtain ⟨b, off, e, hlt, hs⟩ := h i hi
  exact ⟨b, off, e, by omega, hs.more hD⟩
theorem seal_end {w w1 : World} {r : Nat} {t : TypeId} {x y z x0 y0 z0 : Value} (hk : CellsAt w1 r t #[x0, y0, z0]) (hb : Below w.heap.size w w1) (hr : w.heap.size ≤ r) :
    ∃ w4, ((w1.setCell ⟨r, 0, none⟩ x).setCell ⟨r, 1, none⟩ y).setCell ⟨r, 2, none⟩ z = w4 ∧ (w4.cell? ⟨r, 0, none⟩ = some x ∧ w4.cell? ⟨r, 1, none⟩ = some y ∧ w4.cell? ⟨r, 2, none⟩ = some z) ∧ Below w.heap.size w w4 ∧ w1.grownBy w4 (some r) := by
  have h := ((hk.set_ 0 x).set_ 1 y).set_ 2 z
  exact ⟨_, rfl, ⟨h.cell 0, h.cell 1, h.cell 2⟩, ((hb.setCell (p := ⟨r, 0, none⟩) hr x).setCell (p := ⟨r, 1, none⟩) hr y).setCell (p := ⟨r, 2, none⟩) hr z, gb_set (gb_set (gb_set (gb_refl _ _) 0 x) 1 y) 2 z⟩
def NewSe (b : World) (cnt : Int) (L : List Tru) (mac : Int) (e : Ending) (w' : World) : Prop := ∃ A c, e = .returned (.agg #[.int .i64 cnt, .slice A L.length c, .int .i64 mac]) ∧ TrRow w' b.heap.size (.slice A L.length c) L ∧ Below b.heap.size b w'
theorem ints_one (l : List Int) : ∀ u ∈ l.map (Value.int .i64), u.oneCell' = true := by
  intro u hu
  obtain ⟨x, _, rfl⟩ := List.mem_map.1 hu
  rfl
theorem ints_news {w : World} {B : Nat} {A : Option Addr} {l : List Int} (h : Ints w .i64 B A l) : ∀ j u, (l.map (Value.int .i64))[j]? = some u → ∃ ad, A = some ad ∧ w.cell? (ad.add j) = some u := by
  intro j u hu
  have hj : j < l.length := by have := (List.getElem?_eq_some_iff.1 hu).1; simpa using this
  obtain ⟨b, off, rfl, _, hc⟩ := h j hj
  refine ⟨_, rfl, ?_⟩
  rw [Addr.add_mid, hc]
  rw [List.getElem?_map, List.getElem?_eq_getElem hj] at hu
  simp only [Option.map_some, Option.some.injEq] at hu
  rw [← hu, List.getD_eq_getElem?_getD, List.getElem?_eq_getElem hj]
  rfl
def IRow (w : World) (base : Nat) (v : Value) (l : List Int) : Prop := w.ownsRow base 2 1 v l.length (l.map (Value.int .i64))
theorem IRow.form {w : World} {base : Nat} {v : Value} {l : List Int} (h : IRow w base v l) : ∃ A c, v = .slice A l.length c ∧ Ints w .i64 w.heap.size A l ∧ l.length ≤ c := by
  rcases h.2 with ⟨rfl, hn⟩ | ⟨g, cap, cur, rfl, hb, hg, hnc, hcm, hcs, htake⟩
  · have : l = [] := List.length_eq_zero_iff.1 hn
    subst this
    exact ⟨none, 0, rfl, Ints.nil, Nat.le_refl _⟩
  · refine ⟨_, cap, rfl, fun i hi => ⟨g, 0, rfl, (Array.getElem?_eq_some_iff.1 hg).1, ?_⟩, hnc⟩
    rw [Nat.zero_add, World.ownsRow.cellAt h i (by omega), List.getElem?_map, List.getElem?_eq_getElem hi, List.getD_eq_getElem?_getD, List.getElem?_eq_getElem hi]
    rfl
def NewInts (b : World) (l : List Int) (e : Ending) (w' : World) : Prop := ∃ A c, e = .returned (.slice A l.length c) ∧ IRow w' b.heap.size (.slice A l.length c) l ∧ Below b.heap.size b w'
set_option maxHeartbeats 1000000 in
theorem l1Copy_calls (A : Option Addr) (l : List Int) (cap : Nat) (w : World) (hn : l.length ≤ 1048576) (hA : Ints w .i64 w.heap.size A l) :
    Calls Tryz.prog 38 #[.slice A l.length cap] w (NewInts w l) := by
  have HB := Lib.hid ((Below.refl w.heap.size w).alloc (Nat.le_refl _) (.cells #[] 2))
  have HA := Lib.hid (ints_news ((hA.below HB.out (Nat.le_refl _)).more HB.out.size))
  have HR := Lib.hid (World.ownsRow_made (e := 2) (size := 1) w #[] 0 (Nat.le_refl w.heap.size) (by simp [maxLen]) rfl)
  have h1 := ints_one l
  clear hA
  go_enter Tryz.func38, Tryz.ntmps38
  go_wp2_with (at_builtin; refine wpList_append_row rfl _ _ 22 rfl w.heap.size 2 1 8 0 (.int .i64 0) (.slice (some ⟨w.heap.size, 0, none⟩) 0 0) [] A l.length cap (l.map (Value.int .i64)) Tryz.underlying22 info_i64 rfl (by omega) rfl HR.out rfl (by simp) HA.out h1 (by unfold maxLen; omega) (by omega) (by simp) ?_)
  intro v' w' hown hg _
  have hb : Below w.heap.size w w' := bgb HB.out (g := w.heap.size) (by simpa [Value.ownBlock] using hg) (by simp) (Nat.le_refl _)
  have hrow : IRow w' w.heap.size v' l := hown
  obtain ⟨A', c', rfl, _, _⟩ := hrow.form
  go_wp2_with fail
  go_ret
  exact ⟨A', c', rfl, hrow, hb⟩
theorem row_new {u w' : World} {t size n : Nat} {A : Option Addr} {c m : Nat} {xs : List Value} (h : w'.ownsRow u.heap.size t size (.slice A m c) n xs) : ∀ g ∈ (ownRow 0 0 t size n xs).fp (.slice A m c), u.heap.size ≤ g ∧ g < w'.heap.size := by
  intro g hg
  cases A with
  | none => simp [ownRow] at hg
  | some a =>
    simp only [ownRow, List.mem_singleton] at hg
    subst hg
    exact World.ownsRow.lt h a.block rfl
theorem row_mono {u : World} {base base' t size n : Nat} {v : Value} {xs : List Value} (h : u.ownsRow base t size v n xs) (hb : base' ≤ base) : u.ownsRow base' t size v n xs := by
  refine ⟨h.1, ?_⟩
  rcases h.2 with h0 | ⟨g, cap, cur, e, hg, r⟩
  · exact .inl h0
  · exact .inr ⟨g, cap, cur, e, Nat.le_trans hb hg, r⟩
def NewPl (b : World) (key : Int) (l : List Int) (e : Ending) (w' : World) : Prop := ∃ A c, e = .returned (.agg (pA key A l.length c)) ∧ IRow w' b.heap.size (.slice A l.length c) l ∧ Below b.heap.size b w'
set_option maxRecDepth 20000 in
set_option maxHeartbeats 2000000 in
theorem l5Copy_calls (key : Int) (A : Option Addr) (l : List Int) (cap : Nat) (w : World) (hn : l.length ≤ 1048576) (hA : Ints w .i64 w.heap.size A l) :
    Calls Tryz.prog 15 #[.agg (pA key A l.length cap)] w (NewPl w key l) := by
  have K0 := Lib.hid (show Kept w [(w.heap.size + 1, 26, zP), (w.heap.size, 26, (pA key A l.length cap))] _ from (((Kept.refl w).put1 _ _ (pA key A l.length cap) rfl).put1 _ _ zP (by simp)))
  have CO := Lib.hid (fun (u : World) (hb : Below w.heap.size w u) => l1Copy_calls A l cap u hn ((hA.below hb (Nat.le_refl _)).more hb.size))
  clear hA
  go_enter Tryz.func15, Tryz.ntmps15
  go_upto_region 1 with fail
  have hk := K0.out
  generalize (w.alloc _).alloc _ = w0 at hk ⊢
  have lm0 : w.heap.size < w0.heap.size := hk.lt (x := (w.heap.size, 26, (pA key A l.length cap))) (by simp)
  have lm1 : w.heap.size + 1 < w0.heap.size := hk.lt (x := (w.heap.size + 1, 26, zP)) (by simp)
  have hn0 : Kept w [(w.heap.size, 26, (pA key A l.length cap))] _ := hk.sub (by intro y hy; simp at hy ⊢; subst hy; simp)
  have hcz := hk.at_ (p := w.heap.size + 1) (t := 26) (cs := zP) (by simp)
  have hok : OutB.Ok (⟨w.heap.size + 1, 26, 2, 6, [4], fun γ => #[.int .i64 key, γ 4]⟩ : OutB) w (w0.heap.size) [(w.heap.size, 26, (pA key A l.length cap))] := ⟨by simp only [] <;> omega, by simp only [] <;> omega, by intro y hy; simp only [List.mem_cons, List.not_mem_nil, or_false] at hy; subst hy <;> (simp only []; omega), fun γ γ' ha => by simp only []; rw [ha 4 (by simp)], fun γ => rfl, by simp⟩
  have hstab : ∀ zz ∈ ([ownRow 4 w.heap.size 2 1 l.length (l.map (Value.int .i64))] : List Own), zz.Stable := by
    intro y hy
    simp only [List.mem_cons, List.not_mem_nil, or_false] at hy
    subst hy; exact ownRow.stable _ _ _ _ _ _
  have hstart : ∀ γ, OwnR w (w0.heap.size) [(w.heap.size, 26, (pA key A l.length cap))] [ownRow 4 w.heap.size 2 1 l.length (l.map (Value.int .i64))] (fun _ _ => false) (⟨w.heap.size + 1, 26, 2, 6, [4], fun γ => #[.int .i64 key, γ 4]⟩ : OutB) (fun _ => false) γ _ := fun γ => OwnR.start hn0 hn0.1.size (Nat.le_refl _) (by intro y hy; simp only [List.mem_cons, List.not_mem_nil, or_false] at hy; subst hy <;> (simp only []; omega)) hcz rfl
  refine wp_region_free [false, false, false, false, true, false, true] (ShL [(4, fun v => ∃ (A : Option Addr) (c : Nat), v = .slice A l.length c)]) (fun D γ u => OwnR w (w0.heap.size) [(w.heap.size, 26, (pA key A l.length cap))] [ownRow 4 w.heap.size 2 1 l.length (l.map (Value.int .i64))] (fun _ _ => false) (⟨w.heap.size + 1, 26, 2, 6, [4], fun γ => #[.int .i64 key, γ 4]⟩ : OutB) D γ u) (by kernel_rfl) (by kernel_rfl) (fun γ => by kernel_rfl) (fun D γ γ' w ha h => h.loc hok ha) (ShL.inh _ ?inh) (fun γ => hstart γ) (fun γ hγ => ?_)
  case inh =>
    intro y hy
    simp only [List.mem_cons, List.not_mem_nil, or_false] at hy
    subst hy
    · exact ⟨_, none, 0, rfl⟩
  clear hstart hn0 hcz
  obtain ⟨A4, c4, g4⟩ : ∃ (A : Option Addr) (c : Nat), γ 4 = .slice A l.length c := hγ 4 rfl
  have g6 : γ 6 = undef := hγ 6 rfl
  clear hk
  apply Exists.intro
  refine ⟨fun D => ?_, ?_, ?_⟩
  · simp only [hushL, cond_true, cond_false, Nat.reduceAdd, g4, g6]
    iterate 7 (first
      | go_big_quiet_skip
      | (go_big_quiet_want
         go_big_quiet_op
         first
           | go_big_quiet_on
           | (apply Exists.intro
              refine ⟨fun u hu => ?_, ?_⟩
              · first
                  | with_reducible rfl
                  | (obtain ⟨kc0, kf0, -⟩ := hu.1.1.1.rd; go_simp; first | done | with_reducible rfl)
              go_big_quiet_on)))
    exact wpQuiet_nil rfl
  · simp only [freeOk, Nat.reduceAdd]
    refine ⟨fun D u hD hd hu => ?_, fun D u hD hd hu => ?_, trivial⟩
    · refine steps_call ((CO.out u hu.1.1.1.1).mono ?_) rfl rfl rfl rfl (by kernel_rfl)
      rintro e w' ⟨A5, c5, rfl, hrow, hb⟩
      refine ⟨_, rfl, ⟨A5, c5, rfl⟩, ?_⟩
      exact hu.made hok hstab (z := ownRow 4 w.heap.size 2 1 l.length (l.map (Value.int .i64))) (by simp) (by intro y hy; simp only [List.mem_cons, List.not_mem_nil, or_false] at hy; subst hy; exact .inl rfl) hD (Nat.ne_of_beq_eq_false rfl) hb (row_mono hrow hu.1.1.1.1.size) (fun g hg => row_new hrow g hg)
    · obtain ⟨z, hz, hzs⟩ := hu.box
      refine steps_store hz rfl rfl (show _ = Value.agg (pA key A4 l.length c4) from rfl) (by kernel_rfl) hzs (by simp [Value.oneCell']) (fun w' hc hg => ⟨rfl, hu.stored hok hstab (by intro y hy; simp only [List.mem_cons, List.not_mem_nil, or_false] at hy; subst hy; exact ⟨Nat.ne_of_beq_eq_false rfl, Nat.ne_of_beq_eq_false rfl⟩) (by intro y hy; simp only [List.mem_cons, List.not_mem_nil, or_false] at hy; subst hy; exact hd { on := 4, ground := Ground.phase } (by simp) rfl rfl) hg ?_ _⟩)
      show CellsAt w' (w.heap.size + 1) 26 (#[.int .i64 key, γ 4])
      simp only [g4]
      exact hc
  · intro D uf hD hu
    have ho4 : IRow uf w.heap.size (γ 4) l := (hu.1.at_ (z := ownRow 4 w.heap.size 2 1 l.length (l.map (Value.int .i64))) (by simp) (hD 4 (by simp) rfl)).1
    simp only [g4] at ho4
    obtain ⟨hres0, hf⟩ := hu.done (hD 6 (by simp) rfl)
    have hres : CellsAt uf (w.heap.size + 1) 26 (#[.int .i64 key, γ 4]) := hres0
    simp only [g4] at hres
    clear hres0
    have d0 := hres.cell 0
    have d1 := hres.cell 1
    go_wp2_with fail
    exact bodyPost_ret (v := .agg (pA key A4 l.length c4)) (by simp [results, Tryz.results15, go_sem, d0, d1]) rfl ⟨A4, c4, rfl, ho4, hf.1⟩
end Go.Proofs.YtgaecedhkbneaaaGreat.Mx

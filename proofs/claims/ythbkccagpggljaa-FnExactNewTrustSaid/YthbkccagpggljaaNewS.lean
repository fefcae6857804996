/- CONTRACT OF spec.NewTrust: what it answers, at every argument; nothing that was there is written. -/
import Derived.Test.YthbkccagpggljaaCRow
import Derived.Test.YthbkccagpggljaaBehindS
import Derived.Test.YthbkccagpggljaaSumB
import Derived.Test.YthbkccagpggljaaSumsS
import Derived.Deep.AppendLies
import Derived.Deep.RegionHeld3
namespace Go.Proofs.Ythbkccagpggljaa.Mx
open Go.ChangeShapes Go.WideShapes Go.ChangeAt Go.RowKit Go.Maps
set_option linter.unusedVariables false

/-- The cells of a new region: each at its own time, from 1 on, of value 0. -/
noncomputable def cellsNew (key first : Int) (n : Nat) : List Ce := (List.range n).map fun (i : Nat) => cellOf key (first + (i : Int)) ((i : Int) + 1) 0
/-- .. as triples. -/
noncomputable def trisNew (key first : Int) (n : Nat) : List Tri := (List.range n).map fun (i : Nat) => tripleIn (first + (i : Int)) (cellOf key (first + (i : Int)) ((i : Int) + 1) 0).1 (cellOf key (first + (i : Int)) ((i : Int) + 1) 0).2
theorem cellsNew_succ (key first : Int) (n : Nat) : cellsNew key first (n + 1) = cellsNew key first n ++ [((cellOf key (first + n) (n + 1) 0).1, (cellOf key (first + n) (n + 1) 0).2)] := by simp [cellsNew, List.range_succ]
theorem trisNew_succ (key first : Int) (n : Nat) : trisNew key first (n + 1) = trisNew key first n ++ [tripleIn (first + n) (cellOf key (first + n) (n + 1) 0).1 (cellOf key (first + n) (n + 1) 0).2] := by simp [trisNew, List.range_succ]
theorem cellsNew_length (key first : Int) (n : Nat) : (cellsNew key first n).length = n := by simp [cellsNew]
theorem trisNew_length (key first : Int) (n : Nat) : (trisNew key first n).length = n := by simp [trisNew]
theorem tripleIn_i64 (a t v : Int) : I64 (tripleIn a t v).1 ∧ I64 (tripleIn a t v).2.1 ∧ I64 (tripleIn a t v).2.2 := by
  by_cases h : isTri a t v
  · rw [tripleIn_yes h]; exact h.i64
  · rw [tripleIn_no h]; exact ⟨⟨by decide, by decide⟩, ⟨by decide, by decide⟩, ⟨by decide, by decide⟩⟩

/-- Since world b nothing that was there has turned, the boxes L hold their cells; c owns the cells C, t the triples T; the cell q holds x. -/
def NewK (b : World) (L : List Box) (base : Nat) (c t : Value) (C : List Ce) (T : List Tri) (q : Addr) (x : Value) (u : World) : Prop := Kept b L u ∧ CRow u base c C ∧ TRow u base t T ∧ q.block < u.heap.size ∧ u.cell? q = some x
theorem NewK.below {b u v : World} {L : List Box} {base : Nat} {c t x : Value} {C : List Ce} {T : List Tri} {q : Addr} (h : NewK b L base c t C T q x u) (hb : Below u.heap.size u v) : NewK b L base c t C T q x v :=
  ⟨h.1.below hb, h.2.1.below hb, h.2.2.1.below hb, Nat.lt_of_lt_of_le h.2.2.2.1 hb.size, (hb.cell h.2.2.2.1).trans h.2.2.2.2⟩
theorem NewK.cells {b u : World} {g p base : Nat} {zs : Array Value} {y z c t x : Value} {C : List Ce} {T : List Tri} {q : Addr} (h : NewK b [(g, 27, zs), (p, 31, #[y, z])] base c t C T q x u) :
    (u.cell? ⟨p, 0, none⟩ = some y ∧ u.cell? ⟨p, 1, none⟩ = some z ∧ u.cell? q = some x) ∧ NewK b [(g, 27, zs), (p, 31, #[y, z])] base c t C T q x u :=
  ⟨⟨h.1.tail.cell (List.mem_cons_self ..) 0, h.1.tail.cell (List.mem_cons_self ..) 1, h.2.2.2.2⟩, h⟩
theorem NewK.keep {b u v : World} {g p base : Nat} {zs : Array Value} {y z c t x : Value} {C : List Ce} {T : List Tri} {q : Addr} (hb : Below u.heap.size u v)
    (h : (u.cell? ⟨p, 0, none⟩ = some y ∧ u.cell? ⟨p, 1, none⟩ = some z ∧ u.cell? q = some x) ∧ NewK b [(g, 27, zs), (p, 31, #[y, z])] base c t C T q x u) :
    (v.cell? ⟨p, 0, none⟩ = some y ∧ v.cell? ⟨p, 1, none⟩ = some z ∧ v.cell? q = some x) ∧ NewK b [(g, 27, zs), (p, 31, #[y, z])] base c t C T q x v := NewK.cells (h.2.below hb)

/-- spec.FirstOf is -1: no such region. -/
theorem specNew_no (key x : Int) (A : Option Addr) (l : List Int) (cap : Nat) (w : World) (hn : l.length ≤ maxLen) (hcap : l.length ≤ cap) (hA : Ints w .i64 w.heap.size A l) (h : firstOf key l x < 0) :
    Calls Try.prog 5 #[.agg #[.int .i64 key, .slice A l.length cap], .int .i64 x] w fun e w' => ∃ u, e = .returned (.tuple #[.agg #[.int .i64 0, .int .i64 0, .int .i64 0, .int .i64 0, .int .i64 0, .int .i64 0, .int .i64 0, .bool false], u]) ∧ CRow w' w.heap.size u [] ∧ Below w.heap.size w w' := by
  have k0 := ((Kept.refl w).new 31 #[.int .i64 key, .slice A l.length cap]).new 27 #[.int .i64 0, .int .i64 0, .int .i64 0, .int .i64 0, .int .i64 0, .int .i64 0, .int .i64 0, .bool false]
  rw [show (w.alloc (.cells #[.int .i64 key, .slice A l.length cap] 31)).heap.size = w.heap.size + 1 by simp] at k0
  have F := Lib.hid (fun (u : World) (hb : Below w.heap.size w u) => specFirst_calls key x A l cap u hn hcap ((hA.below hb (Nat.le_refl _)).more hb.size))
  have K0 := Lib.hid k0
  generalize firstOf key l x = f at F h
  clear hA hn k0
  go_enter Try.func5, Try.ntmps5
  go_wp2_with fail
  refine (F.out _ K0.out.1).mono ?_; rintro e w1 ⟨rfl, b1⟩
  have k1 := (K0.out.below b1).alloc (.cells #[] 43)
  have r0 : (w1.alloc (.cells #[] 43)).cell? ⟨w.heap.size + 1, 0, none⟩ = some (.int .i64 0) := k1.cell (List.mem_cons_self ..) 0
  have r1 : (w1.alloc (.cells #[] 43)).cell? ⟨w.heap.size + 1, 1, none⟩ = some (.int .i64 0) := k1.cell (List.mem_cons_self ..) 1
  have r2 : (w1.alloc (.cells #[] 43)).cell? ⟨w.heap.size + 1, 2, none⟩ = some (.int .i64 0) := k1.cell (List.mem_cons_self ..) 2
  have r3 : (w1.alloc (.cells #[] 43)).cell? ⟨w.heap.size + 1, 3, none⟩ = some (.int .i64 0) := k1.cell (List.mem_cons_self ..) 3
  have r4 : (w1.alloc (.cells #[] 43)).cell? ⟨w.heap.size + 1, 4, none⟩ = some (.int .i64 0) := k1.cell (List.mem_cons_self ..) 4
  have r5 : (w1.alloc (.cells #[] 43)).cell? ⟨w.heap.size + 1, 5, none⟩ = some (.int .i64 0) := k1.cell (List.mem_cons_self ..) 5
  have r6 : (w1.alloc (.cells #[] 43)).cell? ⟨w.heap.size + 1, 6, none⟩ = some (.int .i64 0) := k1.cell (List.mem_cons_self ..) 6
  have r7 : (w1.alloc (.cells #[] 43)).cell? ⟨w.heap.size + 1, 7, none⟩ = some (.bool false) := k1.cell (List.mem_cons_self ..) 7
  have h0 := k1.frozen (List.mem_cons_self ..) 0
  have h1 := k1.frozen (List.mem_cons_self ..) 1
  have h2 := k1.frozen (List.mem_cons_self ..) 2
  have h3 := k1.frozen (List.mem_cons_self ..) 3
  have h4 := k1.frozen (List.mem_cons_self ..) 4
  have h5 := k1.frozen (List.mem_cons_self ..) 5
  have h6 := k1.frozen (List.mem_cons_self ..) 6
  have h7 := k1.frozen (List.mem_cons_self ..) 7
  have z1 : w.heap.size + 1 + 1 ≤ w1.heap.size := by have := b1.size; simp at this; omega
  have R1 := Lib.hid (CRow.made w1 (w.heap.size + 1 + 1) z1)
  have K1 := Lib.hid k1
  clear b1 k1 F K0
  go_wp2_with fail
  obtain ⟨w9, e9, ⟨d0, d1, d2, d3, d4, d5, d6, d7⟩, -, hb, hg⟩ := trust_end (x0 := .int .i64 0) (x1 := .int .i64 0) (x2 := .int .i64 0) (x3 := .int .i64 0) (x4 := .int .i64 0) (x5 := .int .i64 0) (x6 := .int .i64 0) (x7 := .bool false) (K1.out.at_ (List.mem_cons_self ..)) K1.out.1 (by omega)
  rw [e9]
  have R9 := Lib.hid ((R1.out.grown hg (by omega)).mono (show w.heap.size ≤ w.heap.size + 1 + 1 by omega))
  clear e9 hg
  exact bodyPost_ret (v := .tuple #[.agg #[.int .i64 0, .int .i64 0, .int .i64 0, .int .i64 0, .int .i64 0, .int .i64 0, .int .i64 0, .bool false], .slice (some ⟨w1.heap.size, 0, none⟩) 0 0]) (by simp [results, Try.results5, go_sem, d0, d1, d2, d3, d4, d5, d6, d7]) rfl ⟨_, rfl, R9.out, hb⟩

set_option maxRecDepth 20000 in
set_option maxHeartbeats 2000000 in
/-- A region of a right plan: its cells at the times from 1 on; their sum is what has been written. -/
theorem specNew_yes (key : Int) (A : Option Addr) (l : List Int) (cap r : Nat) (w : World) (hn : l.length ≤ maxLen) (hcap : l.length ≤ cap) (hA : Ints w .i64 w.heap.size A l) (hp : planOk key l) (hr : r < l.length) :
    Calls Try.prog 5 #[.agg #[.int .i64 key, .slice A l.length cap], .int .i64 r] w fun e w' => ∃ u, e = .returned (.tuple #[.agg #[.int .i64 (l.getD r 0), .int .i64 0, .int .i64 0, .int .i64 0, .int .i64 (sumOf key (trisNew key (upTo l r) (l.getD r 0).toNat)), .int .i64 0, .int .i64 0, .bool false], u]) ∧
      CRow w' w.heap.size u (cellsNew key (upTo l r) (l.getD r 0).toNat) ∧ Below w.heap.size w w' := by
  have k0 := ((Kept.refl w).new 31 #[.int .i64 key, .slice A l.length cap]).new 27 #[.int .i64 0, .int .i64 0, .int .i64 0, .int .i64 0, .int .i64 0, .int .i64 0, .int .i64 0, .bool false]
  rw [show (w.alloc (.cells #[.int .i64 key, .slice A l.length cap] 31)).heap.size = w.heap.size + 1 by simp] at k0
  have F := Lib.hid (fun (u : World) (hb : Below w.heap.size w u) => specFirst_yes key A l cap r u hn hcap ((hA.below hb (Nat.le_refl _)).more hb.size) hp hr)
  have K0 := Lib.hid k0
  have HA := Lib.hid hA
  obtain ⟨v, hvv⟩ : ∃ v, v = l.getD r 0 := ⟨_, rfl⟩
  have HV := Lib.hid hvv
  have hv := hp.2.2.1 r hr
  have hu := upTo_bd hp.2.2.1 (show r ≤ l.length by omega)
  have hl4 := hp.2.1.2
  rw [← hvv] at hv ⊢
  obtain ⟨f, hff⟩ : ∃ f, f = upTo l r := ⟨_, rfl⟩
  rw [← hff] at F hu ⊢
  obtain ⟨v0, v1⟩ := hv
  obtain ⟨u0, u1⟩ := hu
  have hr' : (r : Int) < l.length := by omega
  have hr0 : (0 : Int) ≤ r := by omega
  obtain ⟨ic, hci, hcz0, hcz1, hcz2⟩ := info_parts2
  obtain ⟨it, hti, htz0, htz1, htz2⟩ := info_parts3
  clear hA hn k0 hvv hff hp
  go_enter Try.func5, Try.ntmps5
  go_wp2_with fail
  refine (F.out _ K0.out.1).mono ?_; rintro e w1 ⟨rfl, b1⟩
  have z1 : w.heap.size + 1 + 1 ≤ w1.heap.size := by have := b1.size; simp at this; omega
  have K1 := Lib.hid (((K0.out.below b1).alloc (.cells #[] 43)).alloc (.cells #[] 46))
  have R1 := Lib.hid ((CRow.made w1 (w.heap.size + 1 + 1) z1).alloc (.cells #[] 46))
  have T1 := Lib.hid (TRow.made (w1.alloc (.cells #[] 43)) (w.heap.size + 1 + 1) (by simp; omega))
  have hf0 : ¬ f < 0 := by omega
  clear b1 F K0
  go_wp2_with fail
  rw [show (w1.alloc (.cells #[] 43)).heap.size = w1.heap.size + 1 by simp] at T1
  go_loopw [7, 8, 9] (fun c t i u => ∃ (k : Nat) (c' t' : Value), c' = c ∧ t' = t ∧ (k : Int) ≤ v ∧ i = .int .i64 k ∧ CRow u (w.heap.size + 1 + 1) c (cellsNew key f k) ∧ TRow u (w.heap.size + 1 + 1) t (trisNew key f k) ∧ (∀ g, c.ownBlock = some g → t.ownBlock ≠ some g) ∧ Kept w [(w.heap.size + 1, 27, #[.int .i64 0, .int .i64 0, .int .i64 0, .int .i64 0, .int .i64 0, .int .i64 0, .int .i64 0, .bool false]), (w.heap.size, 31, #[.int .i64 key, .slice A l.length cap])] u) (fun _ _ i _ => v.toNat - (intOf i).toNat)
  case atStart => exact ⟨0, _, _, rfl, rfl, by omega, rfl, R1.out, T1.out, by intro g h1 h2; have e1 : w1.heap.size = g := Option.some.inj h1; have e2 : w1.heap.size + 1 = g := Option.some.inj h2; omega, K1.out⟩
  case round =>
    obtain ⟨k, p7, p8, rfl, rfl, hk, rfl, hcr, htr, hne, hkp⟩ := hrel
    obtain ⟨bq, off, rfl, hbq, hcq⟩ := (HA.out.below hkp.1 (Nat.le_refl _)) r hr
    rw [← HV.out] at hcq
    have e0 := hkp.cell (p := w.heap.size) (t := 31) (cs := #[.int .i64 key, .slice (some ⟨bq, off, none⟩) l.length cap]) (by simp) 0
    have e1 := hkp.cell (p := w.heap.size) (t := 31) (cs := #[.int .i64 key, .slice (some ⟨bq, off, none⟩) l.length cap]) (by simp) 1
    simp only [List.getElem?_toArray, List.getElem?_cons_zero, List.getElem?_cons_succ] at e0 e1
    have CR := Lib.hid hcr
    have TT := Lib.hid htr
    have NE := Lib.hid hne
    have KP := Lib.hid hkp
    clear hcr htr hne hkp
    by_cases hlt : (k : Int) < v
    · have HSC := Lib.hid (cellsNew_succ key f k)
      have HST := Lib.hid (trisNew_succ key f k)
      have hw1 : IntKind.i64.wrap (f + k) = f + k := IntWalk.i64_in _ (by omega)
      have hw2 : IntKind.i64.wrap ((k : Int) + 1) = k + 1 := IntWalk.i64_in _ (by omega)
      have CC := Lib.hid (fun u => specCellOf_calls key (f + k) (k + 1) 0 u)
      generalize (cellOf key (f + k) (k + 1) 0).1 = c1 at CC HSC HST
      generalize (cellOf key (f + k) (k + 1) 0).2 = c2 at CC HSC HST
      go_wp2_with fail
      refine (CC.out _).mono ?_; rintro e w2 ⟨rfl, b2⟩
      have KP2 := Lib.hid (KP.out.below b2)
      have CR2 := Lib.hid (((CR.out.below b2).alloc (.cells #[.int .i64 c1, .int .i64 c2] 43)).alloc (.cells #[.int .i64 c1, .int .i64 c2] 43))
      have TT2 := Lib.hid (((TT.out.below b2).alloc (.cells #[.int .i64 c1, .int .i64 c2] 43)).alloc (.cells #[.int .i64 c1, .int .i64 c2] 43))
      have z2 := b2.size
      clear b2
      have hel : CellsAt ((w2.alloc (.cells #[.int .i64 c1, .int .i64 c2] 43)).alloc (.cells #[.int .i64 c1, .int .i64 c2] 43)) (w2.heap.size + 1) 43 #[.int .i64 c1, .int .i64 c2] := by
        have h := CellsAt.new (w2.alloc (.cells #[.int .i64 c1, .int .i64 c2] 43)) 43 #[.int .i64 c1, .int .i64 c2]
        rwa [show (w2.alloc (.cells #[.int .i64 c1, .int .i64 c2] 43)).heap.size = w2.heap.size + 1 by simp] at h
      have hbx : CellsAt ((w2.alloc (.cells #[.int .i64 c1, .int .i64 c2] 43)).alloc (.cells #[.int .i64 c1, .int .i64 c2] 43)) w2.heap.size 43 #[.int .i64 c1, .int .i64 c2] := CellsAt.grown (CellsAt.new w2 43 #[.int .i64 c1, .int .i64 c2]) (World.grownBy_alloc _ _ none) (by simp)
      have hsz : ((w2.alloc (.cells #[.int .i64 c1, .int .i64 c2] 43)).alloc (.cells #[.int .i64 c1, .int .i64 c2] 43)).heap.size = w2.heap.size + 1 + 1 := by simp
      have KB := Lib.hid ((KP2.out.alloc (.cells #[.int .i64 c1, .int .i64 c2] 43)).alloc (.cells #[.int .i64 c1, .int .i64 c2] 43))
      have zb : w.heap.size + 1 + 1 ≤ w2.heap.size := by have := (KP2.out.lt (List.mem_cons_self ..)); simp at this; omega
      have lc := cellsNew_length key f k
      have lt_ := trisNew_length key f k
      have own7 := fun g (h : p7.ownBlock = some g) => World.ownsRow.lt CR.out g h
      have own8 := fun g (h : p8.ownBlock = some g) => World.ownsRow.lt TT.out.1 g h
      have HEL := Lib.hid hel
      have HBX := Lib.hid hbx
      have O7 := Lib.hid own7
      have O8 := Lib.hid own8
      clear hel hbx own7 own8
      go_wp2_with (at_builtin; refine wpList_append_lies _ rfl _ _ 28 rfl (w.heap.size + 1 + 1) 43 ic (.agg #[.int .i64 0, .int .i64 0]) 2 16 Try.underlying28 hci hcz0 hcz1 hcz2 rfl (by omega) p7 (cellsNew key f k).length (flatC (cellsNew key f k)) rfl CR2.out ⟨w2.heap.size + 1, 0, none⟩ 1 1 [.int .i64 c1, .int .i64 c2] rfl rfl (World.news_of_block (cs := #[.int .i64 c1, .int .i64 c2]) (t := 43) (fr := (0, 0)) HEL.out) (by simp [Value.oneCell']) (by omega) ?n1 ?n2 ?n3 (w2.heap.size + 1 + 1) ?n4 ?_)
      case n1 => unfold maxLen; omega
      case n2 => omega
      case n3 => simp; omega
      case n4 => simp
      intro gg cc wc hown hgrow hat hlt2
      have hrow7 := fun g (h : p7.ownBlock = some g) => O7.out g h
      have BC : Below (w.heap.size + 1 + 1) ((w2.alloc (.cells #[.int .i64 c1, .int .i64 c2] 43)).alloc (.cells #[.int .i64 c1, .int .i64 c2] 43)) wc := gr_below hgrow (by rw [hsz]; omega) (fun g h => (O7.out g h).1)
      have hbx3 : CellsAt wc w2.heap.size 43 #[.int .i64 c1, .int .i64 c2] := HBX.out.grown hgrow (by intro e; have h2 := (O7.out _ e.symm).2; omega)
      have g0 : wc.cell? ⟨w2.heap.size, 0, none⟩ = some (.int .i64 c1) := hbx3.cell 0
      have g1 : wc.cell? ⟨w2.heap.size, 1, none⟩ = some (.int .i64 c2) := hbx3.cell 1
      have KC := Lib.hid (show Kept w [(w.heap.size + 1, 27, #[.int .i64 0, .int .i64 0, .int .i64 0, .int .i64 0, .int .i64 0, .int .i64 0, .int .i64 0, .bool false]), (w.heap.size, 31, #[.int .i64 key, .slice (some ⟨bq, off, none⟩) l.length cap])] wc from ⟨KB.out.1.trans (BC.mono (by omega)), fun y hy => ⟨(KB.out.2 y hy).1, (KB.out.2 y hy).2.below BC (by simp at hy; rcases hy with rfl | rfl <;> simp <;> omega)⟩⟩)
      have C3 := Lib.hid (CRow.snoc (L := cellsNew key f k) (t := c1) (z := c2) (by rw [lc]; exact hown))
      have T3 := Lib.hid (show TRow wc (w.heap.size + 1 + 1) p8 (trisNew key f k) from ⟨TT2.out.1.kept hgrow (by
        cases e : p8.ownBlock with
        | none => exact .inl rfl
        | some j => exact .inr (fun h => NE.out j h.symm e)), TT2.out.2⟩)
      have N3 : ∀ g, (Value.slice (some ⟨gg, 0, none⟩) (k + 1) cc).ownBlock = some g → p8.ownBlock ≠ some g := by
        intro g h1 h2
        have e1 : gg = g := Option.some.inj h1
        rcases hat with h | h
        · rw [e1] at h; exact NE.out g h h2
        · have := (O8.out g h2).2; omega
      have zc : w2.heap.size + 1 + 1 ≤ wc.heap.size := by have := BC.size; rw [hsz] at this; exact this
      have HN3 := Lib.hid N3
      clear hown hgrow hat hrow7 BC hbx3 N3 HEL HBX KB KP2 CR2 TT2
      have CT := Lib.hid (fun u => specTripleIn_calls (f + k) c1 c2 u)
      have TI := Lib.hid (tripleIn_i64 (f + k) c1 c2)
      generalize hti3 : tripleIn (f + k) c1 c2 = t3 at CT HST TI
      clear hti3
      obtain ⟨ta, tb, tc⟩ := t3
      go_wp2_with fail
      refine (CT.out _).mono ?_; rintro e wd ⟨rfl, bd⟩
      have KD := Lib.hid (KC.out.below bd)
      have C4 := Lib.hid ((C3.out.below bd).alloc (.cells #[.int .i64 ta, .int .i64 tb, .int .i64 tc] 46))
      have T4 := Lib.hid ((T3.out.below bd).alloc (.cells #[.int .i64 ta, .int .i64 tb, .int .i64 tc] 46))
      have O9 := Lib.hid (fun g (h : p8.ownBlock = some g) => World.ownsRow.lt (T3.out.below bd).1 g h)
      have O10 := Lib.hid (fun g (h : (Value.slice (some ⟨gg, 0, none⟩) (k + 1) cc).ownBlock = some g) => World.ownsRow.lt (C3.out.below bd) g h)
      have zd := bd.size
      clear bd g0 g1 KC C3 T3 CT
      go_wp2_with (at_builtin; refine wpList_append_lies _ rfl _ _ 41 rfl (w.heap.size + 1 + 1) 46 it (.agg #[.int .i64 0, .int .i64 0, .int .i64 0]) 3 24 Try.underlying41 hti htz0 htz1 htz2 rfl (by omega) p8 (trisNew key f k).length (flatT (trisNew key f k)) rfl T4.out.1 ⟨wd.heap.size, 0, none⟩ 1 1 [.int .i64 ta, .int .i64 tb, .int .i64 tc] rfl rfl (World.news_of_block (cs := #[.int .i64 ta, .int .i64 tb, .int .i64 tc]) (t := 46) (fr := (0, 0)) (heap_alloc_new wd _)) (by simp [Value.oneCell']) (by omega) ?m1 ?m2 ?m3 (wd.heap.size + 1) ?m4 ?_)
      case m1 => unfold maxLen; omega
      case m2 => omega
      case m3 => simp; omega
      case m4 => simp
      intro g5 c5 we hown hgrow hat hlt3
      have BE : Below (w.heap.size + 1 + 1) (wd.alloc (.cells #[.int .i64 ta, .int .i64 tb, .int .i64 tc] 46)) we := gr_below hgrow (by simp; omega) (fun g h => (O9.out g h).1)
      have kd := KD.out.alloc (.cells #[.int .i64 ta, .int .i64 tb, .int .i64 tc] 46)
      have KE := Lib.hid (show Kept w [(w.heap.size + 1, 27, #[.int .i64 0, .int .i64 0, .int .i64 0, .int .i64 0, .int .i64 0, .int .i64 0, .int .i64 0, .bool false]), (w.heap.size, 31, #[.int .i64 key, .slice (some ⟨bq, off, none⟩) l.length cap])] we from ⟨kd.1.trans (BE.mono (by omega)), fun y hy => ⟨(kd.2 y hy).1, (kd.2 y hy).2.below BE (by simp at hy; rcases hy with rfl | rfl <;> simp <;> omega)⟩⟩)
      have T5 := Lib.hid (TRow.snoc T4.out.2 TI.out.1 TI.out.2.1 TI.out.2.2 (by rw [lt_]; exact hown))
      have C5 := Lib.hid (C4.out.kept hgrow (by
        cases e : (Value.slice (some ⟨gg, 0, none⟩) (k + 1) cc).ownBlock with
        | none => exact .inl rfl
        | some j => exact .inr (fun h => HN3.out j e h.symm)))
      have N5 := Lib.hid (show ∀ g, (Value.slice (some ⟨gg, 0, none⟩) (k + 1) cc).ownBlock = some g → (Value.slice (some ⟨g5, 0, none⟩) (k + 1) c5).ownBlock ≠ some g from by
        intro g h1 h2
        have e2 : g5 = g := Option.some.inj h2
        rcases hat with h | h
        · rw [e2] at h; exact HN3.out g h1 h
        · have := (O10.out g h1).2; omega)
      clear hown hgrow hat BE kd C4 T4 KD O9 O10
      go_wp2_with fail
      go_roundw
      case rel => exact ⟨k + 1, _, _, rfl, rfl, by omega, by go_num, by rw [HSC.out]; exact C5.out, by rw [HST.out]; exact T5.out, N5.out, KE.out⟩
      case measure => simp [intOf]; omega
    · obtain rfl : v = k := by omega
      obtain ⟨Qt, ct, hqt, hlies⟩ := TT.out.lies
      have lt_ := trisNew_length key f k
      rw [lt_] at hqt
      subst hqt
      have SU := Lib.hid (fun u (h : (u.cell? ⟨w.heap.size, 0, none⟩ = some (.int .i64 key) ∧ u.cell? ⟨w.heap.size, 1, none⟩ = some (.slice (some ⟨bq, off, none⟩) l.length cap) ∧ u.cell? ⟨bq, off + r, none⟩ = some (.int .i64 k)) ∧ NewK w [(w.heap.size + 1, 27, #[.int .i64 0, .int .i64 0, .int .i64 0, .int .i64 0, .int .i64 0, .int .i64 0, .int .i64 0, .bool false]), (w.heap.size, 31, #[.int .i64 key, .slice (some ⟨bq, off, none⟩) l.length cap])] (w.heap.size + 1 + 1) p7 (.slice Qt k ct) (cellsNew key f k) (trisNew key f k) ⟨bq, off + r, none⟩ (.int .i64 k) u) => (show Calls Try.prog 18 #[.int .i64 key, .slice Qt k ct] u fun e w' => e = .returned (.int .i64 (sumOf key (trisNew key f k))) ∧ Below u.heap.size u w' from by
        obtain ⟨Q2, c2, e2, hl2⟩ := TRow.lies h.2.2.2.1
        rw [lt_] at e2
        injection e2 with e2 e3 e4
        subst e2
        have hc := specSum_calls key Qt (trisNew key f k) ct u (by rw [lt_]; unfold maxLen; omega) hl2.tris
        rw [lt_] at hc
        exact hc))
      have N0 := Lib.hid (show NewK w [(w.heap.size + 1, 27, #[.int .i64 0, .int .i64 0, .int .i64 0, .int .i64 0, .int .i64 0, .int .i64 0, .int .i64 0, .bool false]), (w.heap.size, 31, #[.int .i64 key, .slice (some ⟨bq, off, none⟩) l.length cap])] (w.heap.size + 1 + 1) p7 (.slice Qt k ct) (cellsNew key f k) (trisNew key f k) ⟨bq, off + r, none⟩ (.int .i64 k) wr.drew from ⟨KP.out.drew, World.ownsRow.drew CR.out, ⟨TT.out.1.drew, TT.out.2⟩, Nat.lt_of_lt_of_le hbq KP.out.1.size, hcq⟩)
      have zr : w.heap.size + 1 < w.heap.size + 1 + 1 := by omega
      obtain ⟨sm, hsm⟩ : ∃ sm, sm = sumOf key (trisNew key f k) := ⟨_, rfl⟩
      rw [← hsm] at SU
      have HSM := Lib.hid hsm
      clear hsm
      clear hlies TT CR NE KP lt_
      go_upto_region 12 with fail
      obtain ⟨⟨y0, y1, y2⟩, -⟩ := NewK.cells N0.out
      have y0' : wr.cell? ⟨w.heap.size, 0, none⟩ = some (.int .i64 key) := y0
      have y1' : wr.cell? ⟨w.heap.size, 1, none⟩ = some (.slice (some ⟨bq, off, none⟩) l.length cap) := y1
      have y2' : wr.cell? ⟨bq, off + r, none⟩ = some (.int .i64 k) := y2
      clear y0 y1 y2
      go_region_with (go_at_call 18; refine (SU.out _ (NewK.cells N0.out)).mono ?_; rintro e wx ⟨rfl, bx⟩; have nx := N0.out.below bx; obtain ⟨⟨x0, x1, x2⟩, -⟩ := NewK.cells nx; have r0 : wx.cell? ⟨w.heap.size + 1, 0, none⟩ = some (.int .i64 0) := nx.1.cell (List.mem_cons_self ..) 0; have r1 : wx.cell? ⟨w.heap.size + 1, 1, none⟩ = some (.int .i64 0) := nx.1.cell (List.mem_cons_self ..) 1; have r2 : wx.cell? ⟨w.heap.size + 1, 2, none⟩ = some (.int .i64 0) := nx.1.cell (List.mem_cons_self ..) 2; have r3 : wx.cell? ⟨w.heap.size + 1, 3, none⟩ = some (.int .i64 0) := nx.1.cell (List.mem_cons_self ..) 3; have r4 : wx.cell? ⟨w.heap.size + 1, 4, none⟩ = some (.int .i64 0) := nx.1.cell (List.mem_cons_self ..) 4; have r5 : wx.cell? ⟨w.heap.size + 1, 5, none⟩ = some (.int .i64 0) := nx.1.cell (List.mem_cons_self ..) 5; have r6 : wx.cell? ⟨w.heap.size + 1, 6, none⟩ = some (.int .i64 0) := nx.1.cell (List.mem_cons_self ..) 6; have r7 : wx.cell? ⟨w.heap.size + 1, 7, none⟩ = some (.bool false) := nx.1.cell (List.mem_cons_self ..) 7; have h0 := nx.1.frozen (List.mem_cons_self ..) 0; have h1 := nx.1.frozen (List.mem_cons_self ..) 1; have h2 := nx.1.frozen (List.mem_cons_self ..) 2; have h3 := nx.1.frozen (List.mem_cons_self ..) 3; have h4 := nx.1.frozen (List.mem_cons_self ..) 4; have h5 := nx.1.frozen (List.mem_cons_self ..) 5; have h6 := nx.1.frozen (List.mem_cons_self ..) 6; have h7 := nx.1.frozen (List.mem_cons_self ..) 7; have NX := Lib.hid nx; clear nx bx)
      all_goals
        go_wp2_with fail
        obtain ⟨w9, e9, ⟨d0, d1, d2, d3, d4, d5, d6, d7⟩, -, hb, hg⟩ := trust_end (x0 := .int .i64 k) (x1 := .int .i64 0) (x2 := .int .i64 0) (x3 := .int .i64 0) (x4 := .int .i64 sm) (x5 := .int .i64 0) (x6 := .int .i64 0) (x7 := .bool false) (NX.out.1.at_ (List.mem_cons_self ..)) NX.out.1.1 (by omega)
        rw [e9]
        have R9 := Lib.hid ((NX.out.2.1.grown hg (by omega)).mono (show w.heap.size ≤ w.heap.size + 1 + 1 by omega))
        clear e9 hg
        exact bodyPost_ret (v := .tuple #[.agg #[.int .i64 k, .int .i64 0, .int .i64 0, .int .i64 0, .int .i64 sm, .int .i64 0, .int .i64 0, .bool false], p7]) (by simp [results, Try.results5, go_sem, d0, d1, d2, d3, d4, d5, d6, d7]) rfl ⟨p7, by rw [HSM.out, Int.toNat_natCast], by rw [Int.toNat_natCast]; exact R9.out, hb⟩
end Go.Proofs.Ythbkccagpggljaa.Mx

import Derived.Test.YteoijmejhdocdaaGreatDoorG22
namespace Go.Proofs.YteoijmejhdocdaaGreatDoor.Mx
open Go.ChangeShapes Go.WideShapes Go.ChangeAt Go.RowKit
set_option linter.unusedVariables false
def TurnP (Q : Nat → Prop) (u v : World) : Prop := v.os = u.os ∧ v.tape = u.tape ∧ v.output = u.output ∧ u.heap.size ≤ v.heap.size ∧ ∀ k, k < u.heap.size → ¬ Q k → v.heap[k]? = u.heap[k]?
theorem TurnP.refl (Q : Nat → Prop) (u : World) : TurnP Q u u := ⟨rfl, rfl, rfl, Nat.le_refl _, fun _ _ _ => rfl⟩
theorem TurnP.trans {Q : Nat → Prop} {u v w : World} (h : TurnP Q u v) (h' : TurnP Q v w) : TurnP Q u w :=
  ⟨h'.1.trans h.1, h'.2.1.trans h.2.1, h'.2.2.1.trans h.2.2.1, Nat.le_trans h.2.2.2.1 h'.2.2.2.1, fun k hk hq => (h'.2.2.2.2 k (Nat.lt_of_lt_of_le hk h.2.2.2.1) hq).trans (h.2.2.2.2 k hk hq)⟩
theorem TurnP.weak {Q R : Nat → Prop} {u v : World} (h : TurnP Q u v) (hq : ∀ k, Q k → R k) : TurnP R u v := ⟨h.1, h.2.1, h.2.2.1, h.2.2.2.1, fun k hk hr => h.2.2.2.2 k hk (fun x => hr (hq k x))⟩
theorem TurnP.own {u v : World} {a : Value} (hg : u.grownBy v a.ownBlock) : TurnP (fun k => k ∈ blkOf a) u v := by
  refine ⟨hg.os, hg.tape, hg.output, hg.size, fun k hk hq => hg.block k hk (fun e => hq ?_)⟩
  unfold Value.ownBlock at e
  split at e
  · injection e with e; subst e; simp [blkOf]
  · cases e
theorem TurnP.one {u v : World} {g : Nat} (hg : u.grownBy v (some g)) : TurnP (fun k => k = g) u v :=
  ⟨hg.os, hg.tape, hg.output, hg.size, fun k hk hq => hg.block k hk (fun e => hq (by injection e))⟩
theorem TurnP.row {Q : Nat → Prop} {u u' : World} {base t size n : Nat} {v : Value} {xs : List Value} (h : TurnP Q u u') (r : u.ownsRow base t size v n xs) (hs : ∀ y ∈ blkOf v, ¬ Q y) : u'.ownsRow base t size v n xs :=
  row_stable r fun y hy => h.2.2.2.2 y (row_at r y hy).2 (hs y hy)
theorem TurnP.cells {Q : Nat → Prop} {u u' : World} {g : Nat} {t : TypeId} {cs : Array Value} (h : TurnP Q u u') (c : CellsAt u g t cs) (hs : ¬ Q g) : CellsAt u' g t cs := (h.2.2.2.2 g c.lt hs).trans c
theorem HeldN.turn {Q : Nat → Prop} {u u' : World} {v : Value} {n : Nat} {m : Int} (h : HeldN u v n m) (ht : TurnP Q u u') (hs : ∀ y ∈ blkOf v, ¬ Q y) : HeldN u' v n m := by
  rcases h with ⟨g, c, rfl, hg, hm⟩ | h
  · exact .inl ⟨g, c, rfl, Nat.lt_of_lt_of_le hg ht.2.2.2.1, hm.block (ht.2.2.2.2 g hg (hs g (by simp [blkOf])))⟩
  · exact .inr h
theorem HeldTr.turn {Q : Nat → Prop} {u u' : World} {v : Value} {n : Nat} {m : Int} (h : HeldTr u v n m) (ht : TurnP Q u u') (hs : ∀ y ∈ blkOf v, ¬ Q y) : HeldTr u' v n m := by
  rcases h with ⟨g, c, rfl, hg, hm⟩ | h
  · exact .inl ⟨g, c, rfl, Nat.lt_of_lt_of_le hg ht.2.2.2.1, hm.block (ht.2.2.2.2 g hg (hs g (by simp [blkOf])))⟩
  · exact .inr h
theorem HeldC.turn {Q : Nat → Prop} {u u' : World} {v : Value} {n : Nat} {m : Int} (h : HeldC u v n m) (ht : TurnP Q u u') (hs : ∀ y ∈ blkOf v, ¬ Q y) : HeldC u' v n m := by
  rcases h with ⟨g, c, rfl, hg, hm⟩ | h
  · exact .inl ⟨g, c, rfl, Nat.lt_of_lt_of_le hg ht.2.2.2.1, hm.block (ht.2.2.2.2 g hg (hs g (by simp [blkOf])))⟩
  · exact .inr h
def markAt (S : List SlN) (m : Int) : Nat → Int
  | 0 => m
  | k + 1 => markAt S m k + 1 + 8 * (S.getD k default).trusts.length + 1 + 2 * (S.getD k default).cells.length
theorem markAt_bound (S : List SlN) (hS : SlShort S) (m : Int) (hm : 0 ≤ m) : ∀ k : Nat, k ≤ S.length → 0 ≤ markAt S m k ∧ markAt S m k ≤ m + 10485762 * k := by
  intro k
  induction k with
  | zero => intro _; exact ⟨hm, by simp [markAt]⟩
  | succ k ih =>
    intro hk
    obtain ⟨h0, h1⟩ := ih (by omega)
    obtain ⟨h2, h3⟩ := hS k (by omega)
    unfold markAt
    constructor
    · omega
    · push_cast; omega
structure SlW where
  a : Nat → Value
  b : Nat → Value
def SlW.Apart (f : SlW) (g n : Nat) : Prop := (∀ j, j < n → (∀ y ∈ blkOf (f.a j), y ≠ g) ∧ ∀ y ∈ blkOf (f.b j), y ≠ g) ∧ (∀ i j, i < n → j < n → ∀ y ∈ blkOf (f.a i), y ∉ blkOf (f.b j)) ∧ (∀ i j, i < n → j < n → i ≠ j → ∀ y ∈ blkOf (f.a i), y ∉ blkOf (f.a j)) ∧ (∀ i j, i < n → j < n → i ≠ j → ∀ y ∈ blkOf (f.b i), y ∉ blkOf (f.b j))
def SlW.Q (f : SlW) (g n : Nat) (y : Nat) : Prop := y = g ∨ ∃ j, j < n ∧ (y ∈ blkOf (f.a j) ∨ y ∈ blkOf (f.b j))
def SlW.Q1 (f : SlW) (g k : Nat) (y : Nat) : Prop := y = g ∨ y ∈ blkOf (f.a k) ∨ y ∈ blkOf (f.b k)
def SlSt (u : World) (base g : Nat) (f : SlW) (S : List SlN) (m : Int) (k : Nat) : Prop :=
  (∃ cs, CellsAt u g 91 cs ∧ cs.size = S.length * 4 ∧ (∀ j, j < S.length → cs[j * 4 + 1]? = some (f.a j) ∧ cs[j * 4 + 3]? = some (f.b j)) ∧
    ∀ j, j < k → cs[j * 4]? = some (.int .i64 (markAt S m j)) ∧ cs[j * 4 + 2]? = some (.int .i64 (markAt S m j + 1 + 8 * (S.getD j default).trusts.length))) ∧
  (∀ j, j < k → HeldTr u (f.a j) (S.getD j default).trusts.length (markAt S m j + 1) ∧ HeldC u (f.b j) (S.getD j default).cells.length (markAt S m j + 1 + 8 * (S.getD j default).trusts.length + 1)) ∧
  (∀ j, k ≤ j → j < S.length → TrRow u base (f.a j) (S.getD j default).trusts ∧ ClRow u base (f.b j) (S.getD j default).cells)
theorem SlSt.row_turn {Q : Nat → Prop} {u u' : World} {base g : Nat} {f : SlW} {S : List SlN} {m : Int} (h : SlSt u base g f S m 0) (ht : TurnP Q u u') (hg : ¬ Q g) (hs : ∀ j, j < S.length → (∀ y ∈ blkOf (f.a j), ¬ Q y) ∧ ∀ y ∈ blkOf (f.b j), ¬ Q y) : SlSt u' base g f S m 0 := by
  obtain ⟨⟨cs, h1, h2⟩, h3, h4⟩ := h
  exact ⟨⟨cs, ht.cells h1 hg, h2⟩, fun j hj => by omega, fun j h5 h6 => ⟨ht.row (h4 j h5 h6).1 (hs j h6).1, ht.row (h4 j h5 h6).2 (hs j h6).2⟩⟩
theorem SlSt.below {u u' : World} {base g : Nat} {f : SlW} {S : List SlN} {m : Int} (h : SlSt u base g f S m S.length) (hb : Below u.heap.size u u') : SlSt u' base g f S m S.length := by
  obtain ⟨⟨cs, h1, h2⟩, h3, h4⟩ := h
  exact ⟨⟨cs, h1.below hb h1.lt, h2⟩, fun j hj => ⟨(h3 j hj).1.below hb, (h3 j hj).2.below hb⟩, fun j h5 h6 => by omega⟩
set_option maxRecDepth 20000 in
set_option maxHeartbeats 16000000 in
theorem markSlotS_own (base g : Nat) (f : SlW) (S : List SlN) (cap : Nat) (m : Int) (w : World) (hn : S.length ≤ 1048576) (hS : SlShort S) (hm0 : 0 ≤ m) (hm1 : m ≤ 1000000000) (hb : base ≤ g) (hp : f.Apart g S.length) (h : SlSt w base g f S m 0) :
    Calls Tryz.prog 116 #[.slice (some ⟨g, 0, none⟩) S.length cap, .int .i64 m] w fun e w' => e = .returned (.int .i64 (markAt S m S.length)) ∧ SlSt w' base g f S m S.length ∧ TurnP (f.Q g S.length) w w' := by
  have HO := Lib.hid h
  have HS := Lib.hid hS
  have HP := Lib.hid hp
  have HB := Lib.hid (markAt_bound S hS m hm0)
  clear h hS hp
  go_enter Tryz.func116, Tryz.ntmps116
  go_wp2_with fail
  go_loopw [5, 1] (fun i t' u => ∃ k : Nat, ∃ z : Int, k ≤ S.length ∧ i = .int .i64 k ∧ z = markAt S m k ∧ t' = .int .i64 z ∧ SlSt u base g f S m k ∧ TurnP (f.Q g S.length) w u) (fun i _ _ => S.length - (intOf i).toNat)
  case atStart => exact ⟨0, m, Nat.zero_le _, rfl, rfl, rfl, HO.out, TurnP.refl _ _⟩
  case round =>
    obtain ⟨k, z, hk, rfl, hz, rfl, hst, htn⟩ := hrel
    have HM := Lib.hid htn
    have HZ := Lib.hid hz
    obtain ⟨z0, z1⟩ : 0 ≤ z ∧ z ≤ 1125899906842624 - 33554432 := by rw [hz]; have := HB.out k hk; omega
    clear htn hz
    by_cases hlt : k < S.length
    · have hlt' : (k : Int) < S.length := by omega
      have hk0 : (0 : Int) ≤ k := by omega
      obtain ⟨⟨cs, hcs, hsz, hab, hmk⟩, hhe, hro⟩ := hst
      obtain ⟨ea, eb⟩ := hab k hlt
      obtain ⟨ra, rb⟩ := hro k (Nat.le_refl _) hlt
      have hts := HS.out k hlt
      obtain ⟨pg, pab, paa, pbb⟩ := HP.out
      have hc1 := hcs.set_ (k * 4) (.int .i64 z)
      obtain ⟨q0, e0⟩ : ∃ q, wr.cell? ⟨g, k * 4, none⟩ = some q := ⟨_, (hcs.cell (k * 4)).trans (Array.getElem?_eq_getElem (by omega))⟩
      obtain ⟨q2, e2⟩ : ∃ q, cs[k * 4 + 2]? = some q := ⟨_, Array.getElem?_eq_getElem (by omega)⟩
      have f0 := hcs.frozen (k * 4)
      have d1 : (wr.setCell ⟨g, k * 4, none⟩ (.int .i64 z)).cell? ⟨g, k * 4 + 1, none⟩ = some (f.a k) := ((hc1.cell _).trans (Array.getElem?_setIfInBounds_ne (by omega))).trans ea
      have t1 : TurnP (fun y => y = g) wr (wr.setCell ⟨g, k * 4, none⟩ (.int .i64 z)) := TurnP.one (gb_set (gb_refl wr (some g)) (k * 4) (.int .i64 z))
      have ra1 := Lib.hid (t1.row ra (fun y hy => (pg k hlt).1 y hy))
      have rb1 := Lib.hid (t1.row rb (fun y hy => (pg k hlt).2 y hy))
      have HC1 := Lib.hid hc1
      have T1 := Lib.hid (t1.weak (R := f.Q1 g k) (fun y hy => .inl hy))
      have EB := Lib.hid eb
      have E2 := Lib.hid e2
      have HSZ := Lib.hid hsz
      have ST := Lib.hid (show _ ∧ _ ∧ _ ∧ _ from ⟨hab, hmk, hhe, hro⟩)
      have PG := Lib.hid (show _ ∧ _ ∧ _ ∧ _ from ⟨pg, pab, paa, pbb⟩)
      clear hcs hsz hab hmk hhe hro ea ra rb hc1 e2 t1 eb pg pab paa pbb
      obtain ⟨va, hva⟩ : ∃ v, v = f.a k := ⟨_, rfl⟩
      obtain ⟨vb, hvb⟩ : ∃ v, v = f.b k := ⟨_, rfl⟩
      obtain ⟨st, hst⟩ : ∃ v, v = (S.getD k default).trusts := ⟨_, rfl⟩
      obtain ⟨sc, hsc⟩ : ∃ v, v = (S.getD k default).cells := ⟨_, rfl⟩
      have HV := Lib.hid (show _ ∧ _ ∧ _ ∧ _ from ⟨hva, hvb, hst, hsc⟩)
      rw [← hva, ← hst] at ra1
      rw [← hvb, ← hsc] at rb1
      rw [← hva] at d1
      rw [← hvb] at EB
      rw [← hst, ← hsc] at hts
      clear hva hvb hst hsc
      obtain ⟨ts0, ts1⟩ := hts
      go_wp2_with fail
      clear e0 f0 d1
      generalize World.setCell _ _ _ = w1 at HC1 ra1 rb1 T1 ⊢
      refine (markTr_own va st base (z + 1) w1 ts0 (by omega) (by omega) ra1.out).mono ?_; rintro e w2 ⟨rfl, h2, hg2⟩
      have t2 := TurnP.own hg2
      have hg' : ∀ y ∈ blkOf va, y ≠ g := fun y hy => by
        obtain ⟨hva, -, -, -⟩ := HV.out
        rw [hva] at hy
        exact (PG.out.1 k hlt).1 y hy
      have hc2 := t2.cells HC1.out (fun y => hg' g y rfl)
      have rb2 := Lib.hid (t2.row rb1.out (fun y hy hy2 => by
        obtain ⟨hva, hvb, -, -⟩ := HV.out
        rw [hva] at hy2
        rw [hvb] at hy
        exact PG.out.2.1 k k hlt hlt y hy2 hy))
      have T2 := Lib.hid (T1.out.trans (t2.weak (R := f.Q1 g k) (fun y hy => .inr (.inl (by
        obtain ⟨hva, -, -, -⟩ := HV.out
        rw [← hva]
        exact hy)))))
      have o2 : (cs.setIfInBounds (k * 4) (.int .i64 z))[k * 4 + 2]? = some q2 := (Array.getElem?_setIfInBounds_ne (by omega)).trans E2.out
      have e2 : w2.cell? ⟨g, k * 4 + 2, none⟩ = some q2 := (hc2.cell _).trans o2
      have f2 := hc2.frozen (k * 4 + 2)
      have hc3 := hc2.set_ (k * 4 + 2) (.int .i64 (z + 1 + 8 * st.length))
      have d3 : (w2.setCell ⟨g, k * 4 + 2, none⟩ (.int .i64 (z + 1 + 8 * st.length))).cell? ⟨g, k * 4 + 3, none⟩ = some vb := (hc3.cell _).trans ((Array.getElem?_setIfInBounds_ne (by omega)).trans ((Array.getElem?_setIfInBounds_ne (by omega)).trans EB.out))
      have t3 : TurnP (fun y => y = g) w2 (w2.setCell ⟨g, k * 4 + 2, none⟩ (.int .i64 (z + 1 + 8 * st.length))) := TurnP.one (gb_set (gb_refl w2 (some g)) _ _)
      have h3 := Lib.hid (h2.turn t3 hg')
      have rb3 := Lib.hid (t3.row rb2.out (fun y hy => by
        obtain ⟨-, hvb, -, -⟩ := HV.out
        rw [hvb] at hy
        exact (PG.out.1 k hlt).2 y hy))
      have T3 := Lib.hid (T2.out.trans (t3.weak (R := f.Q1 g k) (fun y hy => .inl hy)))
      have HC3 := Lib.hid hc3
      clear h2 hg2 t2 hc2 rb2 T2 o2 hc3 t3 HC1 ra1 rb1 T1 E2 hg'
      go_wp2_with fail
      clear e2 f2 d3
      generalize World.setCell _ _ _ = w3 at HC3 h3 rb3 T3 ⊢
      refine (markC_own vb sc base (z + 1 + 8 * st.length + 1) w3 ts1 (by omega) (by omega) rb3.out).mono ?_; rintro e w4 ⟨rfl, h4, hg4⟩
      have t4 := TurnP.own hg4
      have hg' : ∀ y ∈ blkOf vb, y ≠ g := fun y hy => by
        obtain ⟨-, hvb, -, -⟩ := HV.out
        rw [hvb] at hy
        exact (PG.out.1 k hlt).2 y hy
      have HC4 := Lib.hid (t4.cells HC3.out (fun y => hg' g y rfl))
      have H4 := Lib.hid (h3.out.turn t4 (fun y hy hy2 => by
        obtain ⟨hva, hvb, -, -⟩ := HV.out
        rw [hva] at hy
        rw [hvb] at hy2
        exact PG.out.2.1 k k hlt hlt y hy hy2))
      have HX := Lib.hid h4
      have T4 := Lib.hid (T3.out.trans (t4.weak (R := f.Q1 g k) (fun y hy => .inr (.inr (by
        obtain ⟨-, hvb, -, -⟩ := HV.out
        rw [← hvb]
        exact hy)))))
      clear h4 hg4 t4 HC3 h3 rb3 T3 EB hg'
      go_wp2_with fail
      go_roundw
      case rel =>
        obtain ⟨rfl, rfl, rfl, rfl⟩ := HV.out
        have hz := HZ.out
        have hsz := HSZ.out
        obtain ⟨hab, hmk, hhe, hro⟩ := ST.out
        obtain ⟨pg, pab, paa, pbb⟩ := PG.out
        have hne : ∀ j, j < S.length → j ≠ k → (∀ y ∈ blkOf (f.a j), ¬ f.Q1 g k y) ∧ ∀ y ∈ blkOf (f.b j), ¬ f.Q1 g k y := by
          intro j hj hjk
          refine ⟨fun y hy hq => ?_, fun y hy hq => ?_⟩
          · rcases hq with h | h | h
            · exact (pg j hj).1 y hy h
            · exact paa j k hj hlt hjk y hy h
            · exact pab j k hj hlt y hy h
          · rcases hq with h | h | h
            · exact (pg j hj).2 y hy h
            · exact pab k j hlt hj y h hy
            · exact pbb j k hj hlt hjk y hy h
        refine ⟨k + 1, _, by omega, by go_num, rfl, by rw [hz]; rfl, ⟨⟨_, HC4.out, by simpa using hsz, fun j hj => ⟨?_, ?_⟩, fun j hj => ⟨?_, ?_⟩⟩, fun j hj => ?_, fun j h5 h6 => ?_⟩, HM.out.trans (T4.out.weak (fun y hy => ?_))⟩
        · rw [Array.getElem?_setIfInBounds_ne (by omega), Array.getElem?_setIfInBounds_ne (by omega)]; exact (hab j hj).1
        · rw [Array.getElem?_setIfInBounds_ne (by omega), Array.getElem?_setIfInBounds_ne (by omega)]; exact (hab j hj).2
        · rw [Array.getElem?_setIfInBounds_ne (by omega)]
          by_cases hjk : j = k
          · subst hjk; rw [Array.getElem?_setIfInBounds_self_of_lt (by omega), hz]
          · rw [Array.getElem?_setIfInBounds_ne (by omega)]; exact (hmk j (by omega)).1
        · by_cases hjk : j = k
          · subst hjk; rw [Array.getElem?_setIfInBounds_self_of_lt (by simp; omega), hz]
          · rw [Array.getElem?_setIfInBounds_ne (by omega), Array.getElem?_setIfInBounds_ne (by omega)]; exact (hmk j (by omega)).2
        · by_cases hjk : j = k
          · subst hjk; rw [← hz]; exact ⟨H4.out, HX.out⟩
          · exact ⟨(hhe j (by omega)).1.turn T4.out (hne j (by omega) hjk).1, (hhe j (by omega)).2.turn T4.out (hne j (by omega) hjk).2⟩
        · have hjk : j ≠ k := by omega
          exact ⟨T4.out.row (hro j (by omega) h6).1 (hne j h6 hjk).1, T4.out.row (hro j (by omega) h6).2 (hne j h6 hjk).2⟩
        · rcases hy with h | h | h
          · exact .inl h
          · exact .inr ⟨k, hlt, .inl h⟩
          · exact .inr ⟨k, hlt, .inr h⟩
      case measure => simp [intOf]; omega
    · obtain rfl : k = S.length := by omega
      have HST := Lib.hid hst
      clear hst
      go_wp2_with fail
      go_ret
      exact ⟨by rw [HZ.out]; rfl, HST.out, HM.out⟩
set_option maxRecDepth 20000 in
set_option maxHeartbeats 16000000 in
theorem heldSlotS_own (base g : Nat) (f : SlW) (S : List SlN) (cap : Nat) (m : Int) (w : World) (hn : S.length ≤ 1048576) (hS : SlShort S) (hm0 : 0 ≤ m) (hm1 : m ≤ 1000000000) (h : SlSt w base g f S m S.length) :
    Calls Tryz.prog 120 #[.slice (some ⟨g, 0, none⟩) S.length cap, .int .i64 m] w fun e w' => e = .returned (.int .i64 (markAt S m S.length)) ∧ w = w' := by
  have HO := Lib.hid h
  have HS := Lib.hid hS
  have HB := Lib.hid (markAt_bound S hS m hm0)
  clear h hS
  go_enter Tryz.func120, Tryz.ntmps120
  go_wp2_with fail
  go_loop [5, 1] (fun i t' => ∃ k : Nat, ∃ z : Int, k ≤ S.length ∧ i = .int .i64 k ∧ z = markAt S m k ∧ t' = .int .i64 z) (fun i _ => S.length - (intOf i).toNat)
  case atStart => exact ⟨0, m, Nat.zero_le _, rfl, rfl, rfl⟩
  case round =>
    obtain ⟨k, z, hk, rfl, hz, rfl⟩ := hrel
    have HZ := Lib.hid hz
    obtain ⟨z0, z1⟩ : 0 ≤ z ∧ z ≤ 1125899906842624 - 33554432 := by rw [hz]; have := HB.out k hk; omega
    by_cases hlt : k < S.length
    · have hlt' : (k : Int) < S.length := by omega
      have hk0 : (0 : Int) ≤ k := by omega
      obtain ⟨⟨cs, hcs, hsz, hab, hmk⟩, hhe, -⟩ := HO.out
      obtain ⟨ea, eb⟩ := hab k hlt
      obtain ⟨e0, e2⟩ := hmk k hlt
      obtain ⟨ha, hb⟩ := hhe k hlt
      obtain ⟨ts0, ts1⟩ := HS.out k hlt
      rw [← hz] at e0 e2 ha hb
      clear hz
      have c0 := (hcs.cell (k * 4)).trans e0
      have c1 := (hcs.cell (k * 4 + 1)).trans ea
      have c2 := (hcs.cell (k * 4 + 2)).trans e2
      have c3 := (hcs.cell (k * 4 + 3)).trans eb
      have HN : markAt S m (k + 1) = markAt S m k + 1 + 8 * (S.getD k default).trusts.length + 1 + 2 * (S.getD k default).cells.length := rfl
      have HN := Lib.hid HN
      generalize (S.getD k default).trusts.length = st at c2 ha hb ts0 HN
      generalize (S.getD k default).cells.length = sc at hb ts1 HN
      have CA := Lib.hid (heldTr_own (f.a k) st (z + 1) w ts0 (by omega) (by omega) ha)
      have CB := Lib.hid (heldC_own (f.b k) sc (z + 1 + 8 * st + 1) w ts1 (by omega) (by omega) hb)
      have n1 : ¬ (z + 1 + 8 * (st : Int)) < 0 := by omega
      have n2 : ¬ (z + 1 + 8 * (st : Int) + 1 + 2 * (sc : Int)) < 0 := by omega
      clear hcs hsz hab hmk hhe ea eb e0 e2 ha hb
      generalize f.a k = va at c1 CA
      generalize f.b k = vb at c3 CB
      go_wp2_with fail
      refine CA.out.mono ?_; rintro e w2 ⟨rfl, rfl⟩
      go_wp2_with fail
      refine CB.out.mono ?_; rintro e w2 ⟨rfl, rfl⟩
      go_wp2_with fail
      go_round
      case rel => exact ⟨k + 1, _, by omega, by go_num, rfl, by rw [HN.out, ← HZ.out]⟩
      case measure => simp [intOf]; omega
    · obtain rfl : k = S.length := by omega
      clear hz
      go_wp2_with fail
      go_ret
      exact ⟨by rw [HZ.out]; rfl, rfl⟩
end Go.Proofs.YteoijmejhdocdaaGreatDoor.Mx

import Derived.Test.YteoijmejhdocdaaGreatDoorG23
import Derived.Test.YteoijmejhdocdaaGreatDoorG19
import Derived.Test.YteoijmejhdocdaaGreatDoorG20
import Derived.Test.YteoijmejhdocdaaGreatDoorG15
import Derived.Test.YteoijmejhdocdaaGreatDoorG22
namespace Go.Proofs.YteoijmejhdocdaaGreatDoor.Mx
open Go.ChangeShapes Go.WideShapes Go.ChangeAt Go.RowKit
set_option linter.unusedVariables false
theorem markPlan_via (key : Int) (A : Option Addr) (n c : Nat) (m z : Int) (w : World) (R : World → Prop) (hC : Calls Tryz.prog 183 #[.slice A n c, .int .i64 m] (w.alloc (.cells #[.int .i64 key, .slice A n c] 26)) fun e w' => e = .returned (.int .i64 z) ∧ R w') :
    Calls Tryz.prog 113 #[.agg #[.int .i64 key, .slice A n c], .int .i64 m] w fun e w' => e = .returned (.int .i64 z) ∧ R w' := by
  have HC := Lib.hid hC
  clear hC
  go_enter Tryz.func113, Tryz.ntmps113
  go_wp2_with fail
  refine HC.out.mono ?_; rintro e w1 ⟨rfl, hr⟩
  have HR := Lib.hid hr
  clear hr HC
  go_wp2_with fail
  go_ret
  exact ⟨rfl, HR.out⟩
theorem heldPlan_via (key : Int) (A : Option Addr) (n c : Nat) (m z : Int) (w : World) (R : World → Prop) (hz : 0 ≤ z) (hC : Calls Tryz.prog 184 #[.slice A n c, .int .i64 m] (w.alloc (.cells #[.int .i64 key, .slice A n c] 26)) fun e w' => e = .returned (.int .i64 z) ∧ R w') :
    Calls Tryz.prog 117 #[.agg #[.int .i64 key, .slice A n c], .int .i64 m] w fun e w' => e = .returned (.int .i64 z) ∧ R w' := by
  have HC := Lib.hid hC
  clear hC
  have hz2 : ¬ z < 0 := by omega
  go_enter Tryz.func117, Tryz.ntmps117
  go_wp2_with fail
  refine HC.out.mono ?_; rintro e w1 ⟨rfl, hr⟩
  have HR := Lib.hid hr
  clear hr HC
  go_wp2_with fail
  go_ret
  exact ⟨rfl, HR.out⟩
theorem markSlotS_nil (A : Option Addr) (c : Nat) (m : Int) (w : World) : Calls Tryz.prog 116 #[.slice A 0 c, .int .i64 m] w fun e w' => e = .returned (.int .i64 m) ∧ w = w' := by
  go_enter Tryz.func116, Tryz.ntmps116
  go_wp2_with fail
  go_loop [5, 1] (fun i t => i = .int .i64 0 ∧ t = .int .i64 m) (fun _ _ => 0)
  case atStart => exact ⟨rfl, rfl⟩
  case round =>
    obtain ⟨rfl, rfl⟩ := hrel
    go_wp2_with fail
    go_ret
    exact ⟨rfl, rfl⟩
theorem heldSlotS_nil (A : Option Addr) (c : Nat) (m : Int) (w : World) : Calls Tryz.prog 120 #[.slice A 0 c, .int .i64 m] w fun e w' => e = .returned (.int .i64 m) ∧ w = w' := by
  go_enter Tryz.func120, Tryz.ntmps120
  go_wp2_with fail
  go_loop [5, 1] (fun i t => i = .int .i64 0 ∧ t = .int .i64 m) (fun _ _ => 0)
  case atStart => exact ⟨rfl, rfl⟩
  case round =>
    obtain ⟨rfl, rfl⟩ := hrel
    go_wp2_with fail
    go_ret
    exact ⟨rfl, rfl⟩
def two {α : Type} (p q : α) : Nat → α := fun j => if j = 0 then p else q
def volBase (x : VolN) : Int := 1 + x.counts.length + 8 * x.trusts.length + 2 * x.cells.length
def volMarks (x : VolN) : Int := markAt [x.s0, x.s1] (volBase x) 2
def HeldV (u : World) (base : Nat) (x : VolN) (v : Value) : Prop :=
  ∃ A c B d C e g f, v = .agg #[.int .i64 x.key, .slice A x.counts.length c, .slice B x.trusts.length d, .slice C x.cells.length e, .slice (some ⟨g, 0, none⟩) 2 2, .int .i64 x.count] ∧ HeldN u (.slice A x.counts.length c) x.counts.length 1 ∧ HeldTr u (.slice B x.trusts.length d) x.trusts.length (1 + x.counts.length) ∧ HeldC u (.slice C x.cells.length e) x.cells.length (1 + x.counts.length + 8 * x.trusts.length) ∧ SlSt u base g f [x.s0, x.s1] (volBase x) 2
theorem HeldV.below {u u' : World} {base : Nat} {x : VolN} {v : Value} (h : HeldV u base x v) (hb : Below u.heap.size u u') : HeldV u' base x v := by
  obtain ⟨A, c, B, d, C, e, g, f, rfl, h1, h2, h3, h4⟩ := h
  exact ⟨A, c, B, d, C, e, g, f, rfl, h1.below hb, h2.below hb, h3.below hb, SlSt.below (S := [x.s0, x.s1]) h4 hb⟩
theorem VolN.Short.sl {x : VolN} (h : x.Short) : SlShort [x.s0, x.s1] := by
  intro i hi
  simp only [List.length_cons, List.length_nil] at hi
  obtain rfl | rfl : i = 0 ∨ i = 1 := by omega
  · exact ⟨h.2.2.2.1, h.2.2.2.2.1⟩
  · exact ⟨h.2.2.2.2.2.1, h.2.2.2.2.2.2⟩
theorem alloc_turn (Q : Nat → Prop) (u : World) (o : Obj) : TurnP Q u (u.alloc o) := by
  have h := (Below.refl u.heap.size u).alloc (Nat.le_refl _) o
  exact ⟨h.os, h.tape, h.output, h.size, fun k hk _ => h.block k hk⟩
theorem Mid.of_turn {lo hi : Nat} {u v : World} (h : TurnP (fun y => lo ≤ y ∧ y < hi) u v) : Mid lo hi u v := ⟨h.1, h.2.1, h.2.2.1, h.2.2.2.1, fun k hk hr => h.2.2.2.2 k hk (fun x => by omega)⟩
theorem SlSt.row_since {u u' : World} {base g : Nat} {f : SlW} {S : List SlN} {m : Int} (h : SlSt u base g f S m 0) (hs : Since base u u') (hg : base ≤ g) : SlSt u' base g f S m 0 := by
  obtain ⟨⟨cs, h1, h2⟩, h3, h4⟩ := h
  refine ⟨⟨cs, (hs.2 g hg h1.lt).trans h1, h2⟩, fun j hj => by omega, fun j h5 h6 => ?_⟩
  obtain ⟨ra, rb⟩ := h4 j h5 h6
  exact ⟨row_stable ra (fun y hy => hs.2 y (row_at ra y hy).1 (row_at ra y hy).2), row_stable rb (fun y hy => hs.2 y (row_at rb y hy).1 (row_at rb y hy).2)⟩
def ReadyV (u : World) (base p : Nat) (x : VolN) (A : Option Addr) (c : Nat) (B : Option Addr) (d : Nat) (C : Option Addr) (e : Nat) (g : Nat) (f : SlW) : Prop :=
  IRow u base (.slice A x.counts.length c) x.counts ∧ TrRow u base (.slice B x.trusts.length d) x.trusts ∧ ClRow u base (.slice C x.cells.length e) x.cells ∧ (∀ m, SlSt u base g f [x.s0, x.s1] m 0)
structure SepV (base p : Nat) (x : VolN) (A : Option Addr) (c : Nat) (B : Option Addr) (d : Nat) (C : Option Addr) (e : Nat) (g : Nat) (f : SlW) : Prop where
  bA : ∀ y ∈ blkOf (.slice A x.counts.length c), base ≤ y ∧ y < p
  bB : ∀ y ∈ blkOf (.slice B x.trusts.length d), base ≤ y ∧ y < p
  bC : ∀ y ∈ blkOf (.slice C x.cells.length e), base ≤ y ∧ y < p
  bG : base ≤ g ∧ g < p
  bS : ∀ j, j < 2 → (∀ y ∈ blkOf (f.a j), base ≤ y ∧ y < p) ∧ ∀ y ∈ blkOf (f.b j), base ≤ y ∧ y < p
  AB : ∀ y ∈ blkOf (.slice A x.counts.length c), y ∉ blkOf (.slice B x.trusts.length d)
  AC : ∀ y ∈ blkOf (.slice A x.counts.length c), y ∉ blkOf (.slice C x.cells.length e)
  BC : ∀ y ∈ blkOf (.slice B x.trusts.length d), y ∉ blkOf (.slice C x.cells.length e)
  AG : ∀ y ∈ blkOf (.slice A x.counts.length c), y ≠ g
  BG : ∀ y ∈ blkOf (.slice B x.trusts.length d), y ≠ g
  CG : ∀ y ∈ blkOf (.slice C x.cells.length e), y ≠ g
  AS : ∀ j, j < 2 → ∀ y ∈ blkOf (.slice A x.counts.length c), y ∉ blkOf (f.a j) ∧ y ∉ blkOf (f.b j)
  BS : ∀ j, j < 2 → ∀ y ∈ blkOf (.slice B x.trusts.length d), y ∉ blkOf (f.a j) ∧ y ∉ blkOf (f.b j)
  CS : ∀ j, j < 2 → ∀ y ∈ blkOf (.slice C x.cells.length e), y ∉ blkOf (f.a j) ∧ y ∉ blkOf (f.b j)
  SS : f.Apart g 2
theorem VolO.sep {u : World} {base : Nat} {x : VolN} {v : Value} (h : VolO u base x v) :
    ∃ A c B d C e g f, v = .agg #[.int .i64 x.key, .slice A x.counts.length c, .slice B x.trusts.length d, .slice C x.cells.length e, .slice (some ⟨g, 0, none⟩) 2 2, .int .i64 x.count] ∧ SepV base u.heap.size x A c B d C e g f ∧ ReadyV u base u.heap.size x A c B d C e g f := by
  obtain ⟨A, c, B, d, C, e, g, A0, c0, C0, d0, A1, c1, C1, d1, rfl, h1, h2, h3, h4, h5, h6, h7, h8, h9, h10⟩ := h
  rw [List.pairwise_iff_getElem] at h10
  have P := fun i j (hi : i < 8) (hj : j < 8) (h : i < j) => h10 i j (by simpa using hi) (by simpa using hj) h
  have p01 := P 0 1 (by omega) (by omega) (by omega); have p02 := P 0 2 (by omega) (by omega) (by omega); have p03 := P 0 3 (by omega) (by omega) (by omega); have p04 := P 0 4 (by omega) (by omega) (by omega); have p05 := P 0 5 (by omega) (by omega) (by omega); have p06 := P 0 6 (by omega) (by omega) (by omega); have p07 := P 0 7 (by omega) (by omega) (by omega)
  have p12 := P 1 2 (by omega) (by omega) (by omega); have p13 := P 1 3 (by omega) (by omega) (by omega); have p14 := P 1 4 (by omega) (by omega) (by omega); have p15 := P 1 5 (by omega) (by omega) (by omega); have p16 := P 1 6 (by omega) (by omega) (by omega); have p17 := P 1 7 (by omega) (by omega) (by omega)
  have p23 := P 2 3 (by omega) (by omega) (by omega); have p24 := P 2 4 (by omega) (by omega) (by omega); have p25 := P 2 5 (by omega) (by omega) (by omega); have p26 := P 2 6 (by omega) (by omega) (by omega); have p27 := P 2 7 (by omega) (by omega) (by omega)
  have p34 := P 3 4 (by omega) (by omega) (by omega); have p35 := P 3 5 (by omega) (by omega) (by omega); have p36 := P 3 6 (by omega) (by omega) (by omega); have p37 := P 3 7 (by omega) (by omega) (by omega)
  have p45 := P 4 5 (by omega) (by omega) (by omega); have p46 := P 4 6 (by omega) (by omega) (by omega); have p47 := P 4 7 (by omega) (by omega) (by omega)
  have p56 := P 5 6 (by omega) (by omega) (by omega); have p57 := P 5 7 (by omega) (by omega) (by omega); have p67 := P 6 7 (by omega) (by omega) (by omega)
  simp only [List.getElem_cons_zero, List.getElem_cons_succ] at p01 p02 p03 p04 p05 p06 p07 p12 p13 p14 p15 p16 p17 p23 p24 p25 p26 p27 p34 p35 p36 p37 p45 p46 p47 p56 p57 p67
  clear P h10
  have one : ∀ j, j < 2 → j = 0 ∨ j = 1 := fun j hj => by omega
  have g1 : ∀ {l : List Nat}, (∀ y ∈ l, y ∉ [g]) → ∀ y ∈ l, y ≠ g := fun h y hy e => h y hy (by simp [e])
  have g2 : ∀ {l : List Nat}, (∀ y ∈ [g], y ∉ l) → ∀ y ∈ l, y ≠ g := fun h y hy e => h y (by simp [e]) hy
  refine ⟨A, c, B, d, C, e, g, ⟨two (.slice A0 x.s0.trusts.length c0) (.slice A1 x.s1.trusts.length c1), two (.slice C0 x.s0.cells.length d0) (.slice C1 x.s1.cells.length d1)⟩, rfl,
    { bA := fun y hy => row_at h1 y hy, bB := fun y hy => row_at h2 y hy, bC := fun y hy => row_at h3 y hy, bG := ⟨h4, h5.lt⟩, bS := ?_, AB := p01, AC := p02, BC := p12, AG := g1 p03, BG := g1 p13, CG := g1 p23, AS := ?_, BS := ?_, CS := ?_, SS := ?_ }, h1, h2, h3, fun m => ⟨⟨_, h5, rfl, ?_, fun j hj => by omega⟩, fun j hj => by omega, ?_⟩⟩
  · intro j hj
    rcases one j hj with rfl | rfl
    · exact ⟨fun y hy => row_at h6 y hy, fun y hy => row_at h7 y hy⟩
    · exact ⟨fun y hy => row_at h8 y hy, fun y hy => row_at h9 y hy⟩
  · intro j hj y hy
    rcases one j hj with rfl | rfl
    · exact ⟨p04 y hy, p05 y hy⟩
    · exact ⟨p06 y hy, p07 y hy⟩
  · intro j hj y hy
    rcases one j hj with rfl | rfl
    · exact ⟨p14 y hy, p15 y hy⟩
    · exact ⟨p16 y hy, p17 y hy⟩
  · intro j hj y hy
    rcases one j hj with rfl | rfl
    · exact ⟨p24 y hy, p25 y hy⟩
    · exact ⟨p26 y hy, p27 y hy⟩
  · refine ⟨fun j hj => ?_, fun i j hi hj => ?_, fun i j hi hj hij => ?_, fun i j hi hj hij => ?_⟩
    · rcases one j hj with rfl | rfl
      · exact ⟨g2 p34, g2 p35⟩
      · exact ⟨g2 p36, g2 p37⟩
    · rcases one i hi with rfl | rfl <;> rcases one j hj with rfl | rfl
      · exact p45
      · exact p47
      · exact fun y hy hy2 => p56 y hy2 hy
      · exact p67
    · rcases one i hi with rfl | rfl <;> rcases one j hj with rfl | rfl
      · exact absurd rfl hij
      · exact p46
      · exact fun y hy hy2 => p46 y hy2 hy
      · exact absurd rfl hij
    · rcases one i hi with rfl | rfl <;> rcases one j hj with rfl | rfl
      · exact absurd rfl hij
      · exact p57
      · exact fun y hy hy2 => p57 y hy2 hy
      · exact absurd rfl hij
  · intro j hj
    rcases one j hj with rfl | rfl <;> exact ⟨rfl, rfl⟩
  · intro j _ hj
    rcases one j hj with rfl | rfl
    · exact ⟨h6, h7⟩
    · exact ⟨h8, h9⟩
set_option maxRecDepth 20000 in
set_option maxHeartbeats 16000000 in
theorem markVolume_own (base : Nat) (x : VolN) (v : Value) (w0 w : World) (hx : x.Short) (h : VolO w0 base x v) (hs0 : Since base w0 w) :
    Calls Tryz.prog 44 #[v, .int .i64 1] w fun e w' => e = .returned (.int .i64 (volMarks x)) ∧ HeldV w' base x v ∧ Mid base w0.heap.size w w' := by
  obtain ⟨A, c, B, d, C, e, g, f, rfl, hs, r1, r2, r3, r4⟩ := h.sep
  clear h
  have al := (Below.refl w.heap.size w).alloc (Nat.le_refl _) (.cells #[.int .i64 x.key, .slice A x.counts.length c, .slice B x.trusts.length d, .slice C x.cells.length e, .slice (some ⟨g, 0, none⟩) 2 2, .int .i64 x.count] 31)
  have bx : CellsAt (w.alloc (.cells #[.int .i64 x.key, .slice A x.counts.length c, .slice B x.trusts.length d, .slice C x.cells.length e, .slice (some ⟨g, 0, none⟩) 2 2, .int .i64 x.count] 31)) w.heap.size 31 #[.int .i64 x.key, .slice A x.counts.length c, .slice B x.trusts.length d, .slice C x.cells.length e, .slice (some ⟨g, 0, none⟩) 2 2, .int .i64 x.count] := CellsAt.new w _ _
  have t0 : TurnP (fun y => base ≤ y ∧ y < w0.heap.size) w (w.alloc (.cells #[.int .i64 x.key, .slice A x.counts.length c, .slice B x.trusts.length d, .slice C x.cells.length e, .slice (some ⟨g, 0, none⟩) 2 2, .int .i64 x.count] 31)) := alloc_turn _ _ _
  have ta : Since base w0 (w.alloc (.cells #[.int .i64 x.key, .slice A x.counts.length c, .slice B x.trusts.length d, .slice C x.cells.length e, .slice (some ⟨g, 0, none⟩) 2 2, .int .i64 x.count] 31)) := hs0.trans (Since.of_below al)
  have r1 := row_stable r1 (fun y hy => ta.2 y (row_at r1 y hy).1 (row_at r1 y hy).2)
  have r2 := row_stable r2 (fun y hy => ta.2 y (row_at r2 y hy).1 (row_at r2 y hy).2)
  have r3 := row_stable r3 (fun y hy => ta.2 y (row_at r3 y hy).1 (row_at r3 y hy).2)
  have r4 := fun m => SlSt.row_since (r4 m) ta hs.bG.1
  have hsz := hs0.1
  have HS := Lib.hid hs
  have R := Lib.hid (show ReadyV _ base w0.heap.size x A c B d C e g f from ⟨r1, r2, r3, r4⟩)
  have T0 := Lib.hid t0
  have BX := Lib.hid bx
  have SH := Lib.hid hx
  have n1 := hx.1
  have n2 := hx.2.1
  have n3 := hx.2.2.1
  clear al t0 ta r1 r2 r3 r4 hs hx bx hs0
  go_enter Tryz.func44, Tryz.ntmps44
  go_wp2_with fail
  generalize World.alloc _ _ = u0 at R T0 BX ⊢
  have kc := BX.out.cell
  have kf := BX.out.frozen
  have c0 := kc 0; have c1 := kc 1; have c2 := kc 2; have c3 := kc 3; have c4 := kc 4; have c5 := kc 5
  simp only [List.getElem?_toArray, List.getElem?_cons_zero, List.getElem?_cons_succ] at c0 c1 c2 c3 c4 c5
  clear kc
  go_wp2_with fail
  refine (markPlan_via x.key A x.counts.length c 1 (1 + x.counts.length) u0 (fun w' => HeldN w' (.slice A x.counts.length c) x.counts.length 1 ∧ TurnP (fun k => k ∈ blkOf (.slice A x.counts.length c)) u0 w') ?_).mono ?_
  · have ta := alloc_turn (fun k => k ∈ blkOf (.slice A x.counts.length c)) u0 (.cells #[.int .i64 x.key, .slice A x.counts.length c] 26)
    have tb := alloc_turn (fun _ => False) u0 (.cells #[.int .i64 x.key, .slice A x.counts.length c] 26)
    refine (markN_own (.slice A x.counts.length c) x.counts base 1 _ n1 (by omega) (by omega) (tb.row R.out.1 (fun y _ h => h))).mono ?_
    rintro e w1 ⟨rfl, h1, h2⟩
    exact ⟨rfl, h1, ta.trans (TurnP.own h2)⟩
  rintro e u1 ⟨rfl, hA, t1⟩
  have bx1 := t1.cells BX.out (fun hy => by have := HS.out.bA _ hy; omega)
  have B1 := Lib.hid (t1.row R.out.2.1 (fun y hy h => HS.out.AB y h hy))
  have C1 := Lib.hid (t1.row R.out.2.2.1 (fun y hy h => HS.out.AC y h hy))
  have S1 := Lib.hid (SlSt.row_turn (R.out.2.2.2 (volBase x)) t1 (fun h => HS.out.AG g h rfl) (fun j hj => ⟨fun y hy h => (HS.out.AS j hj y h).1 hy, fun y hy h => (HS.out.AS j hj y h).2 hy⟩))
  have T1 := Lib.hid (T0.out.trans (t1.weak (HS.out.bA)))
  have A1 := Lib.hid hA
  have BX1 := Lib.hid bx1
  clear hA t1 R T0 BX bx1 kf c0 c1 c2 c3 c4 c5
  have kc := BX1.out.cell
  have kf := BX1.out.frozen
  have c0 := kc 0; have c1 := kc 1; have c2 := kc 2; have c3 := kc 3; have c4 := kc 4; have c5 := kc 5
  simp only [List.getElem?_toArray, List.getElem?_cons_zero, List.getElem?_cons_succ] at c0 c1 c2 c3 c4 c5
  clear kc
  go_wp2_with fail
  refine (markTr_own (.slice B x.trusts.length d) x.trusts base (1 + x.counts.length) u1 n2 (by omega) (by omega) B1.out).mono ?_
  rintro e u2 ⟨rfl, hB, hg⟩
  have t2 := TurnP.own hg
  have bx2 := t2.cells BX1.out (fun hy => by have := HS.out.bB _ hy; omega)
  have A2 := Lib.hid (A1.out.turn t2 (fun y hy h => HS.out.AB y hy h))
  have C2 := Lib.hid (t2.row C1.out (fun y hy h => HS.out.BC y h hy))
  have S2 := Lib.hid (SlSt.row_turn S1.out t2 (fun h => HS.out.BG g h rfl) (fun j hj => ⟨fun y hy h => (HS.out.BS j hj y h).1 hy, fun y hy h => (HS.out.BS j hj y h).2 hy⟩))
  have T2 := Lib.hid (T1.out.trans (t2.weak (HS.out.bB)))
  have B2 := Lib.hid hB
  have BX2 := Lib.hid bx2
  clear hB hg t2 A1 B1 C1 S1 T1 BX1 bx2 kf c0 c1 c2 c3 c4 c5
  have kc := BX2.out.cell
  have kf := BX2.out.frozen
  have c0 := kc 0; have c1 := kc 1; have c2 := kc 2; have c3 := kc 3; have c4 := kc 4; have c5 := kc 5
  simp only [List.getElem?_toArray, List.getElem?_cons_zero, List.getElem?_cons_succ] at c0 c1 c2 c3 c4 c5
  clear kc
  go_wp2_with fail
  refine (markC_own (.slice C x.cells.length e) x.cells base (1 + x.counts.length + 8 * x.trusts.length) u2 n3 (by omega) (by omega) C2.out).mono ?_
  rintro e u3 ⟨rfl, hC, hg⟩
  have t3 := TurnP.own hg
  have bx3 := t3.cells BX2.out (fun hy => by have := HS.out.bC _ hy; omega)
  have A3 := Lib.hid (A2.out.turn t3 (fun y hy h => HS.out.AC y hy h))
  have B3 := Lib.hid (B2.out.turn t3 (fun y hy h => HS.out.BC y hy h))
  have S3 := Lib.hid (SlSt.row_turn S2.out t3 (fun h => HS.out.CG g h rfl) (fun j hj => ⟨fun y hy h => (HS.out.CS j hj y h).1 hy, fun y hy h => (HS.out.CS j hj y h).2 hy⟩))
  have T3 := Lib.hid (T2.out.trans (t3.weak (HS.out.bC)))
  have C3 := Lib.hid hC
  have BX3 := Lib.hid bx3
  clear hC hg t3 A2 B2 C2 S2 T2 BX2 bx3 kf c0 c1 c2 c3 c4 c5
  have kc := BX3.out.cell
  have kf := BX3.out.frozen
  have c0 := kc 0; have c1 := kc 1; have c2 := kc 2; have c3 := kc 3; have c4 := kc 4; have c5 := kc 5
  simp only [List.getElem?_toArray, List.getElem?_cons_zero, List.getElem?_cons_succ] at c0 c1 c2 c3 c4 c5
  clear kc
  have n4 : 0 ≤ volBase x ∧ volBase x ≤ 1000000000 := by unfold volBase; omega
  have CS := Lib.hid (show Calls Tryz.prog 116 #[.slice (some ⟨g, 0, none⟩) 2 2, .int .i64 (1 + x.counts.length + 8 * x.trusts.length + 2 * x.cells.length)] u3 _ from markSlotS_own base g f [x.s0, x.s1] 2 (volBase x) u3 (by simp) SH.out.sl n4.1 n4.2 HS.out.bG.1 HS.out.SS S3.out)
  clear n4 S3
  go_wp2_with fail
  refine CS.out.mono ?_
  rintro e u4 ⟨rfl, hS, t4⟩
  have X4 := Lib.hid (show HeldV u4 base x (.agg #[.int .i64 x.key, .slice A x.counts.length c, .slice B x.trusts.length d, .slice C x.cells.length e, .slice (some ⟨g, 0, none⟩) 2 2, .int .i64 x.count]) ∧ Mid base w0.heap.size w u4 from by
    have no : ∀ {l : List Nat}, (∀ y ∈ l, y ≠ g) → (∀ j, j < 2 → ∀ y ∈ l, y ∉ blkOf (f.a j) ∧ y ∉ blkOf (f.b j)) → ∀ y ∈ l, ¬ f.Q g 2 y := by
      intro l h1 h2 y hy h
      rcases h with h | ⟨j, hj, h | h⟩
      · exact h1 y hy h
      · exact (h2 j hj y hy).1 h
      · exact (h2 j hj y hy).2 h
    refine ⟨⟨A, c, B, d, C, e, g, f, rfl, A3.out.turn t4 (no HS.out.AG HS.out.AS), B3.out.turn t4 (no HS.out.BG HS.out.BS), C3.out.turn t4 (no HS.out.CG HS.out.CS), hS⟩, ?_⟩
    refine Mid.of_turn (T3.out.trans (t4.weak (fun y h => ?_)))
    rcases h with h | ⟨j, hj, h | h⟩
    · rw [h]; exact HS.out.bG
    · exact (HS.out.bS j hj).1 y h
    · exact (HS.out.bS j hj).2 y h)
  clear hS t4 A3 B3 C3 T3 BX3 CS
  go_wp2_with fail
  go_ret
  exact ⟨rfl, X4.out⟩
set_option maxRecDepth 20000 in
set_option maxHeartbeats 16000000 in
theorem heldVolume_own (base : Nat) (x : VolN) (v : Value) (w : World) (hx : x.Short) (h : HeldV w base x v) :
    Calls Tryz.prog 45 #[v, .int .i64 1] w fun e w' => e = .returned (.int .i64 (volMarks x)) ∧ Below w.heap.size w w' := by
  obtain ⟨A, c, B, d, C, e, g, f, rfl, h1, h2, h3, h4⟩ := h
  have n1 := hx.1
  have n2 := hx.2.1
  have n3 := hx.2.2.1
  have n4 : 0 ≤ volBase x ∧ volBase x ≤ 1000000000 := by unfold volBase; omega
  have n5 : ¬ volMarks x < 0 := by have := (markAt_bound [x.s0, x.s1] hx.sl (volBase x) n4.1 2 (by simp)).1; unfold volMarks; omega
  have g1 : ¬ (1 + x.counts.length : Int) < 0 := by omega
  have g2 : ¬ (1 + x.counts.length + 8 * x.trusts.length : Int) < 0 := by omega
  have g3 : ¬ (1 + x.counts.length + 8 * x.trusts.length + 2 * x.cells.length : Int) < 0 := by omega
  have K0 := Lib.hid (show Kept w [(w.heap.size, 31, #[.int .i64 x.key, .slice A x.counts.length c, .slice B x.trusts.length d, .slice C x.cells.length e, .slice (some ⟨g, 0, none⟩) 2 2, .int .i64 x.count])] _ from ((Kept.refl w).put1 _ _ #[.int .i64 x.key, .slice A x.counts.length c, .slice B x.trusts.length d, .slice C x.cells.length e, .slice (some ⟨g, 0, none⟩) 2 2, .int .i64 x.count] rfl))
  have T1 := Lib.hid (fun (u : World) (hb : Below w.heap.size w u) => heldPlan_via x.key A x.counts.length c 1 (1 + x.counts.length) u (fun w' => Below u.heap.size u w') (by omega) ((heldN_own (.slice A x.counts.length c) x.counts.length 1 _ n1 (by omega) (by omega) ((h1.below hb).below ((Below.refl _ u).alloc (Nat.le_refl _) _))).mono (by
    rintro e w1 ⟨rfl, rfl⟩
    exact ⟨rfl, (Below.refl _ u).alloc (Nat.le_refl _) _⟩)))
  have T2 := Lib.hid (fun (u : World) (hb : Below w.heap.size w u) => heldTr_own (.slice B x.trusts.length d) x.trusts.length (1 + x.counts.length) u n2 (by omega) (by omega) (h2.below hb))
  have T3 := Lib.hid (fun (u : World) (hb : Below w.heap.size w u) => heldC_own (.slice C x.cells.length e) x.cells.length (1 + x.counts.length + 8 * x.trusts.length) u n3 (by omega) (by omega) (h3.below hb))
  have T4 := Lib.hid (fun (u : World) (hb : Below w.heap.size w u) => show Calls Tryz.prog 120 #[.slice (some ⟨g, 0, none⟩) 2 2, .int .i64 (1 + x.counts.length + 8 * x.trusts.length + 2 * x.cells.length)] u (fun e w' => e = .returned (.int .i64 (volMarks x)) ∧ u = w') from heldSlotS_own base g f [x.s0, x.s1] 2 (volBase x) u (by simp) hx.sl n4.1 n4.2 (SlSt.below (S := [x.s0, x.s1]) h4 hb))
  generalize volMarks x = vm at n5 T4 ⊢
  clear hx h1 h2 h3 h4 n4
  go_enter Tryz.func45, Tryz.ntmps45
  go_wp2_with fail
  obtain ⟨kc0, kf0, -⟩ := K0.out.rd
  go_wp2_with fail
  refine (T1.out _ K0.out.1).mono ?_; rintro e u1 ⟨rfl, b1⟩
  have H1 := Lib.hid (K0.out.below b1)
  clear b1 kc0 kf0 K0 T1
  obtain ⟨kc0, kf0, -⟩ := H1.out.rd
  go_wp2_with fail
  refine (T2.out _ H1.out.1).mono ?_; rintro e u2 ⟨rfl, rfl⟩
  go_wp2_with fail
  refine (T3.out _ H1.out.1).mono ?_; rintro e u2 ⟨rfl, rfl⟩
  go_wp2_with fail
  refine (T4.out _ H1.out.1).mono ?_; rintro e u2 ⟨rfl, rfl⟩
  go_wp2_with fail
  go_ret
  exact ⟨rfl, H1.out.1⟩
set_option maxRecDepth 20000 in
set_option maxHeartbeats 16000000 in
theorem markVolume_zero (w : World) : Calls Tryz.prog 44 #[.agg #[.int .i64 0, .slice none 0 0, .slice none 0 0, .slice none 0 0, .slice none 0 0, .int .i64 0], .int .i64 1] w fun e w' => e = .returned (.int .i64 1) ∧ Below w.heap.size w w' := by
  have K0 := Lib.hid (show Kept w [(w.heap.size, 31, #[.int .i64 0, .slice none 0 0, .slice none 0 0, .slice none 0 0, .slice none 0 0, .int .i64 0])] _ from ((Kept.refl w).put1 _ _ #[.int .i64 0, .slice none 0 0, .slice none 0 0, .slice none 0 0, .slice none 0 0, .int .i64 0] rfl))
  have T1 := Lib.hid (fun (u : World) => markPlan_via 0 none 0 0 1 1 u (fun w' => Below u.heap.size u w') ((markInt64S_nil none 0 1 _).mono (by
    rintro e w1 ⟨rfl, rfl⟩
    exact ⟨rfl, (Below.refl _ u).alloc (Nat.le_refl _) _⟩)))
  have T2 := Lib.hid (fun (u : World) => markTrustS_nil none 0 1 u)
  have T3 := Lib.hid (fun (u : World) => markCellS_nil none 0 1 u)
  have T4 := Lib.hid (fun (u : World) => markSlotS_nil none 0 1 u)
  go_enter Tryz.func44, Tryz.ntmps44
  go_wp2_with fail
  obtain ⟨kc0, kf0, -⟩ := K0.out.rd
  go_wp2_with fail
  refine (T1.out _).mono ?_; rintro e u1 ⟨rfl, b1⟩
  have H1 := Lib.hid (K0.out.below b1)
  clear b1 kc0 kf0 K0 T1
  obtain ⟨kc0, kf0, -⟩ := H1.out.rd
  go_wp2_with fail
  refine (T2.out _).mono ?_; rintro e u2 ⟨rfl, rfl⟩
  go_wp2_with fail
  refine (T3.out _).mono ?_; rintro e u2 ⟨rfl, rfl⟩
  go_wp2_with fail
  refine (T4.out _).mono ?_; rintro e u2 ⟨rfl, rfl⟩
  go_wp2_with fail
  go_ret
  exact ⟨rfl, H1.out.1⟩
set_option maxRecDepth 20000 in
set_option maxHeartbeats 16000000 in
theorem heldVolume_zero (w : World) : Calls Tryz.prog 45 #[.agg #[.int .i64 0, .slice none 0 0, .slice none 0 0, .slice none 0 0, .slice none 0 0, .int .i64 0], .int .i64 1] w fun e w' => e = .returned (.int .i64 1) ∧ Below w.heap.size w w' := by
  have K0 := Lib.hid (show Kept w [(w.heap.size, 31, #[.int .i64 0, .slice none 0 0, .slice none 0 0, .slice none 0 0, .slice none 0 0, .int .i64 0])] _ from ((Kept.refl w).put1 _ _ #[.int .i64 0, .slice none 0 0, .slice none 0 0, .slice none 0 0, .slice none 0 0, .int .i64 0] rfl))
  have T1 := Lib.hid (fun (u : World) => heldPlan_via 0 none 0 0 1 1 u (fun w' => Below u.heap.size u w') (by decide) ((heldInt64S_nil none 0 1 _).mono (by
    rintro e w1 ⟨rfl, rfl⟩
    exact ⟨rfl, (Below.refl _ u).alloc (Nat.le_refl _) _⟩)))
  have T2 := Lib.hid (fun (u : World) => heldTrustS_nil none 0 1 u)
  have T3 := Lib.hid (fun (u : World) => heldCellS_nil none 0 1 u)
  have T4 := Lib.hid (fun (u : World) => heldSlotS_nil none 0 1 u)
  go_enter Tryz.func45, Tryz.ntmps45
  go_wp2_with fail
  obtain ⟨kc0, kf0, -⟩ := K0.out.rd
  go_wp2_with fail
  refine (T1.out _).mono ?_; rintro e u1 ⟨rfl, b1⟩
  have H1 := Lib.hid (K0.out.below b1)
  clear b1 kc0 kf0 K0 T1
  obtain ⟨kc0, kf0, -⟩ := H1.out.rd
  go_wp2_with fail
  refine (T2.out _).mono ?_; rintro e u2 ⟨rfl, rfl⟩
  go_wp2_with fail
  refine (T3.out _).mono ?_; rintro e u2 ⟨rfl, rfl⟩
  go_wp2_with fail
  refine (T4.out _).mono ?_; rintro e u2 ⟨rfl, rfl⟩
  go_wp2_with fail
  go_ret
  exact ⟨rfl, H1.out.1⟩
def HeldQ (u : World) (base : Nat) (o : Option VolN) (v : Value) : Prop := match o with | none => v = .agg #[.int .i64 0, .slice none 0 0, .slice none 0 0, .slice none 0 0, .slice none 0 0, .int .i64 0] | some x => HeldV u base x v
def qMarks (o : Option VolN) : Int := match o with | none => 1 | some x => volMarks x
theorem HeldQ.below {u u' : World} {base : Nat} {o : Option VolN} {v : Value} (h : HeldQ u base o v) (hb : Below u.heap.size u u') : HeldQ u' base o v := by
  cases o with
  | none => exact h
  | some x => exact HeldV.below h hb
def QShort (o : Option VolN) : Prop := ∀ x, o = some x → x.Short
theorem qMarks_pos {o : Option VolN} (h : QShort o) : 0 ≤ qMarks o := by
  cases o with
  | none => exact (by decide : (0 : Int) ≤ 1)
  | some x =>
    have hx := h x rfl
    exact (markAt_bound [x.s0, x.s1] hx.sl (volBase x) (by unfold volBase; omega) 2 (by simp)).1
theorem markVolumeQ_calls (base : Nat) (o : Option VolN) (v : Value) (w0 w : World) (hx : QShort o) (h : VolQ w0 base o v) (hs : Since base w0 w) :
    Calls Tryz.prog 44 #[v, .int .i64 1] w fun e w' => e = .returned (.int .i64 (qMarks o)) ∧ HeldQ w' base o v ∧ Mid base w0.heap.size w w' := by
  cases o with
  | none =>
    have e : v = .agg #[.int .i64 0, .slice none 0 0, .slice none 0 0, .slice none 0 0, .slice none 0 0, .int .i64 0] := h
    subst e
    exact (markVolume_zero w).mono (fun e w' ⟨h1, h2⟩ => ⟨h1, rfl, Mid.of_below h2⟩)
  | some x => exact markVolume_own base x v w0 w (hx x rfl) h hs
theorem heldVolumeQ_calls (base : Nat) (o : Option VolN) (v : Value) (w : World) (hx : QShort o) (h : HeldQ w base o v) :
    Calls Tryz.prog 45 #[v, .int .i64 1] w fun e w' => e = .returned (.int .i64 (qMarks o)) ∧ Below w.heap.size w w' := by
  cases o with
  | none =>
    have e : v = .agg #[.int .i64 0, .slice none 0 0, .slice none 0 0, .slice none 0 0, .slice none 0 0, .int .i64 0] := h
    subst e
    exact heldVolume_zero w
  | some x => exact heldVolume_own base x v w (hx x rfl) h
set_option maxRecDepth 20000 in
set_option maxHeartbeats 16000000 in
theorem markVolume_mid (lo hi : Nat) (x : VolG) (v : Value) (w : World) (hx : x.Short) (hiw : hi ≤ w.heap.size) (h : OwnG w lo hi x v) :
    Calls Tryz.prog 44 #[v, .int .i64 1] w fun e w' => (∃ z : Int, e = .returned (.int .i64 z) ∧ 0 ≤ z) ∧ Mid lo hi w w' := by
  obtain ⟨ga, gb, gc, gd, rfl, ⟨ra, sa⟩, ⟨rb, sb⟩, ⟨rc, sc⟩, so⟩ := h
  have al : Below w.heap.size w (w.alloc (.cells #[.int .i64 x.key, .slice (some ⟨ga, 0, none⟩) x.counts.length x.counts.length, .slice (some ⟨gb, 0, none⟩) x.trusts.length x.trusts.length, .slice (some ⟨gc, 0, none⟩) x.cells.length x.cells.length, .slice (some ⟨gd, 0, none⟩) x.slots.length x.slots.length, .int .i64 x.count] 31)) := (Below.refl w.heap.size w).alloc (Nat.le_refl _) _
  have BX := Lib.hid (show CellsAt (w.alloc (.cells #[.int .i64 x.key, .slice (some ⟨ga, 0, none⟩) x.counts.length x.counts.length, .slice (some ⟨gb, 0, none⟩) x.trusts.length x.trusts.length, .slice (some ⟨gc, 0, none⟩) x.cells.length x.cells.length, .slice (some ⟨gd, 0, none⟩) x.slots.length x.slots.length, .int .i64 x.count] 31)) w.heap.size 31 #[.int .i64 x.key, .slice (some ⟨ga, 0, none⟩) x.counts.length x.counts.length, .slice (some ⟨gb, 0, none⟩) x.trusts.length x.trusts.length, .slice (some ⟨gc, 0, none⟩) x.cells.length x.cells.length, .slice (some ⟨gd, 0, none⟩) x.slots.length x.slots.length, .int .i64 x.count] from CellsAt.new w _ _)
  have SA := Lib.hid (sa.below al)
  have SB := Lib.hid (sb.below al)
  have SC := Lib.hid (sc.below al)
  have SO := Lib.hid (so.below al)
  have M0 := Lib.hid (Mid.of_below (lo := lo) (hi := hi) al)
  have HX := Lib.hid hx
  have n1 := hx.1
  have n2 := hx.2.1
  have n3 := hx.2.2.1
  clear sa sb sc so al hx
  go_enter Tryz.func44, Tryz.ntmps44
  go_wp2_with fail
  generalize World.alloc _ _ = u0 at BX SA SB SC SO M0 ⊢
  have kc := BX.out.cell
  have kf := BX.out.frozen
  have c0 := kc 0; have c1 := kc 1; have c2 := kc 2; have c3 := kc 3; have c4 := kc 4; have c5 := kc 5
  simp only [List.getElem?_toArray, List.getElem?_cons_zero, List.getElem?_cons_succ] at c0 c1 c2 c3 c4 c5
  clear kc
  go_wp2_with fail
  obtain ⟨ta, hta, htn⟩ := SA.out
  refine (markPlan_via x.key (some ⟨ga, 0, none⟩) x.counts.length x.counts.length 1 (1 + x.counts.length) u0 (fun w' => u0.grownBy w' (some ga) ∧ ∃ ds, CellsAt w' ga 2 ds ∧ ds.size = ta.size) ?_).mono ?_
  · have al : Below u0.heap.size u0 (u0.alloc (.cells #[.int .i64 x.key, .slice (some ⟨ga, 0, none⟩) x.counts.length x.counts.length] 26)) := (Below.refl u0.heap.size u0).alloc (Nat.le_refl _) _
    refine (markInt64G_calls ga x.counts.length x.counts.length 1 _ ta _ n1 (by omega) (by omega) (hta.below al hta.lt) htn).mono ?_
    rintro e w1 ⟨rfl, -, h2, h3⟩
    exact ⟨rfl, gb_trans (gb_alloc (gb_refl u0 (some ga)) _) h2, h3⟩
  rintro e u1 ⟨rfl, hg, ds, hd, hds⟩
  have BX1 := Lib.hid (BX.out.grown hg (by intro e; injection e with e; omega))
  have SB1 := Lib.hid (SB.out.keep hg hta hd hds)
  have SC1 := Lib.hid (SC.out.keep hg hta hd hds)
  have SO1 := Lib.hid (SO.out.keep hg hta hd hds (by decide))
  have M1 := Lib.hid (M0.out.trans (Mid.of hg (fun k e => by injection e with e; omega)))
  clear hta htn hg hd hds BX SA SB SC SO M0 kf c0 c1 c2 c3 c4 c5
  have kc := BX1.out.cell
  have kf := BX1.out.frozen
  have c0 := kc 0; have c1 := kc 1; have c2 := kc 2; have c3 := kc 3; have c4 := kc 4; have c5 := kc 5
  simp only [List.getElem?_toArray, List.getElem?_cons_zero, List.getElem?_cons_succ] at c0 c1 c2 c3 c4 c5
  clear kc
  go_wp2_with fail
  obtain ⟨tb, htb, htn⟩ := SB1.out
  refine (markTrustG_calls gb x.trusts.length x.trusts.length (1 + x.counts.length) _ tb u1 n2 (by omega) (by omega) htb htn).mono ?_
  rintro e u2 ⟨rfl, -, hg, ds, hd, hds⟩
  have BX2 := Lib.hid (BX1.out.grown hg (by intro e; injection e with e; omega))
  have SC2 := Lib.hid (SC1.out.keep hg htb hd hds)
  have SO2 := Lib.hid (SO1.out.keep hg htb hd hds (by decide))
  have M2 := Lib.hid (M1.out.trans (Mid.of hg (fun k e => by injection e with e; omega)))
  clear htb htn hg hd hds BX1 SB1 SC1 SO1 M1 kf c0 c1 c2 c3 c4 c5
  have kc := BX2.out.cell
  have kf := BX2.out.frozen
  have c0 := kc 0; have c1 := kc 1; have c2 := kc 2; have c3 := kc 3; have c4 := kc 4; have c5 := kc 5
  simp only [List.getElem?_toArray, List.getElem?_cons_zero, List.getElem?_cons_succ] at c0 c1 c2 c3 c4 c5
  clear kc
  go_wp2_with fail
  obtain ⟨tc, htc, htn⟩ := SC2.out
  refine (markCellG_calls gc x.cells.length x.cells.length (1 + x.counts.length + 8 * x.trusts.length) _ tc u2 n3 (by omega) (by omega) htc htn).mono ?_
  rintro e u3 ⟨rfl, -, hg, ds, hd, hds⟩
  have BX3 := Lib.hid (BX2.out.grown hg (by intro e; injection e with e; omega))
  have SO3 := Lib.hid (SO2.out.keep hg htc hd hds (by decide))
  have M3 := Lib.hid (M2.out.trans (Mid.of hg (fun k e => by injection e with e; omega)))
  clear htc htn hg hd hds BX2 SC2 SO2 M2 kf c0 c1 c2 c3 c4 c5
  have kc := BX3.out.cell
  have kf := BX3.out.frozen
  have c0 := kc 0; have c1 := kc 1; have c2 := kc 2; have c3 := kc 3; have c4 := kc 4; have c5 := kc 5
  simp only [List.getElem?_toArray, List.getElem?_cons_zero, List.getElem?_cons_succ] at c0 c1 c2 c3 c4 c5
  clear kc
  go_wp2_with fail
  refine (markSlotS_mid lo hi gd x.slots x.slots.length _ u3 HX.out.2.2.2.1 HX.out.2.2.2.2 (by omega) (by omega) SO3.out).mono ?_
  rintro e u4 ⟨⟨z, rfl, hz⟩, m4⟩
  have M4 := Lib.hid (M3.out.trans m4)
  clear m4 M3 SO3 BX3
  go_wp2_with fail
  go_ret
  exact ⟨⟨z, rfl, hz⟩, M4.out⟩
theorem OwnG.below {u u' : World} {lo hi : Nat} {x : VolG} {v : Value} (h : OwnG u lo hi x v) (hb : Below u.heap.size u u') : OwnG u' lo hi x v := by
  obtain ⟨ga, gb, gc, gd, rfl, ⟨ra, sa⟩, ⟨rb, sb⟩, ⟨rc, sc⟩, so⟩ := h
  exact ⟨ga, gb, gc, gd, rfl, ⟨ra, sa.below hb⟩, ⟨rb, sb.below hb⟩, ⟨rc, sc.below hb⟩, so.below hb⟩
theorem VolQ.since {u u' : World} {base : Nat} {o : Option VolN} {v : Value} (h : VolQ u base o v) (hs : Since base u u') : VolQ u' base o v := by
  cases o with
  | none => exact h
  | some x =>
    obtain ⟨A, c, B, d, C, e, g, A0, c0, C0, d0, A1, c1, C1, d1, rfl, h1, h2, h3, h4, h5, h6, h7, h8, h9, h10⟩ := h
    have k := fun {vv : Value} {t size n : Nat} {xs : List Value} (hr : u.ownsRow base t size vv n xs) => row_stable hr (u' := u') fun y hy => hs.2 y (row_at hr y hy).1 (row_at hr y hy).2
    exact ⟨A, c, B, d, C, e, g, A0, c0, C0, d0, A1, c1, C1, d1, rfl, k h1, k h2, k h3, h4, (hs.2 g h4 h5.lt).trans h5, k h6, k h7, k h8, k h9, h10⟩
theorem Since.mid {base lo hi : Nat} {a u v : World} (h : Since base a u) (hm : Mid lo hi u v) (hb : hi ≤ base) : Since base a v :=
  ⟨Nat.le_trans h.1 hm.2.2.2.1, fun k hk hl => (hm.2.2.2.2 k (Nat.lt_of_lt_of_le hl h.1) (.inr (Nat.le_trans hb hk))).trans (h.2 k hk hl)⟩
theorem Kept.mid {b u v : World} {L : List Box} {lo hi : Nat} (h : Kept b L u) (hm : Mid lo hi u v) (hl : b.heap.size ≤ lo) (hlu : lo ≤ u.heap.size) (hL : ∀ x ∈ L, x.1 < lo ∨ hi ≤ x.1) : Kept b L v :=
  ⟨h.1.trans ((hm.below hlu).mono hl), fun x hx => ⟨(h.2 x hx).1, (hm.2.2.2.2 x.1 (h.2 x hx).2.lt (hL x hx)).trans (h.2 x hx).2⟩⟩
theorem below_mid {a u v : World} {n lo hi : Nat} (h : Below n a u) (hm : Mid lo hi u v) (hn : n ≤ lo) (hlu : lo ≤ u.heap.size) : Below n a v := h.trans ((hm.below hlu).mono hn)
theorem QShort.g {o : Option VolN} (h : QShort o) : (optG o).Short := by
  cases o with
  | none => exact ⟨Nat.zero_le _, Nat.zero_le _, Nat.zero_le _, Nat.zero_le _, fun i hi => by simp [optG, zeroG] at hi⟩
  | some x =>
    have hx := h x rfl
    exact ⟨hx.1, hx.2.1, hx.2.2.1, by simp [optG, VolN.toG], hx.sl⟩
theorem RdG.has {w : World} {x : VolN} {A : Option Addr} {c : Nat} {B : Option Addr} {d : Nat} {C : Option Addr} {e b off s : Nat} (h : Ints w .i64 w.heap.size A x.counts ∧ Trs w w.heap.size B x.trusts ∧ Cls w w.heap.size C x.cells ∧ b < w.heap.size ∧ SlotAt w w.heap.size b off x.s0 ∧ SlotAt w w.heap.size b (off + 4) x.s1) {u : World} (hb : Below w.heap.size w u) :
    Ints u .i64 u.heap.size A x.counts ∧ Trs u u.heap.size B x.trusts ∧ Cls u u.heap.size C x.cells ∧ b < u.heap.size ∧ SlotAt u u.heap.size b off x.s0 ∧ SlotAt u u.heap.size b (off + 4) x.s1 :=
  ⟨(h.1.below hb (Nat.le_refl _)).more hb.size, (h.2.1.below hb (Nat.le_refl _)).more hb.size, (h.2.2.1.below hb (Nat.le_refl _)).more hb.size, Nat.lt_of_lt_of_le h.2.2.2.1 hb.size, (h.2.2.2.2.1.below hb (Nat.le_refl _) h.2.2.2.1).more hb.size, (h.2.2.2.2.2.below hb (Nat.le_refl _) h.2.2.2.1).more hb.size⟩
theorem QShort.of {o : Option VolN} (h : ∀ x, o = some x → x.Inv) : QShort o := fun x e => (h x e).short
theorem TurnB.gb {b g : Nat} {u v : World} (h : u.grownBy v (some g)) (hb : b ≤ u.heap.size) : TurnB b (some g) u v :=
  ⟨h.os, h.tape, h.output, h.size, fun k hk hr => h.block k (Nat.lt_of_lt_of_le hk hb) (fun e => hr e.symm)⟩
theorem VolO.lits {u : World} {b : Nat} {x : VolN} {cs : Array Value} (h : VolO u b x (.agg cs)) : ∃ A c B d C e g, cs = #[.int .i64 x.key, .slice A x.counts.length c, .slice B x.trusts.length d, .slice C x.cells.length e, .slice (some ⟨g, 0, none⟩) 2 2, .int .i64 x.count] := by
  obtain ⟨A, c, B, d, C, e, g, q0, q1, q2, q3, q4, q5, q6, q7, e9, -⟩ := h
  injection e9 with e9
  exact ⟨A, c, B, d, C, e, g, e9⟩
theorem VolQ.lits {u : World} {b : Nat} {o : Option VolN} {cs : Array Value} (h : VolQ u b o (.agg cs)) : ∃ k A n0 c B n1 d C n2 e E n3 f m, cs = #[.int .i64 k, .slice A n0 c, .slice B n1 d, .slice C n2 e, .slice E n3 f, .int .i64 m] := by
  cases o with
  | none =>
    have e : (Value.agg cs) = .agg #[.int .i64 0, .slice none 0 0, .slice none 0 0, .slice none 0 0, .slice none 0 0, .int .i64 0] := h
    injection e with e
    exact ⟨_, _, _, _, _, _, _, _, _, _, _, _, _, _, e⟩
  | some x =>
    obtain ⟨A, c, B, d, C, e, g, e9⟩ := VolO.lits h
    exact ⟨_, _, _, _, _, _, _, _, _, _, _, _, _, _, e9⟩
theorem VolQ.out {u u' : World} {b p : Nat} {o : Option VolN} {v : Value} (h : VolQ u b o v) (hg : u.grownBy u' (some p)) (hp : p < b) : VolQ u' b o v := by
  cases o with
  | none => exact h
  | some x => exact VolO.out h hg hp
theorem VolQ.mono {u : World} {b b' : Nat} {o : Option VolN} {v : Value} (h : VolQ u b o v) (hb : b' ≤ b) : VolQ u b' o v := by
  cases o with
  | none => exact h
  | some x => exact VolO.mono h hb
end Go.Proofs.YteoijmejhdocdaaGreatDoor.Mx

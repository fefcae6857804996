import Derived.Test.YteoijmejhdocdaaGreatDoorG13
import Derived.Test.YteoijmejhdocdaaGreatDoorG18
import Derived.Test.YteoijmejhdocdaaGreatDoorG06
namespace Go.Proofs.YteoijmejhdocdaaGreatDoor.Mx
open Go.ChangeShapes Go.WideShapes Go.ChangeAt Go.RowKit
set_option linter.unusedVariables false
def Since (base : Nat) (u v : World) : Prop := u.heap.size ≤ v.heap.size ∧ ∀ k, base ≤ k → k < u.heap.size → v.heap[k]? = u.heap[k]?
theorem Since.of_below {base : Nat} {u v : World} (h : Below u.heap.size u v) : Since base u v := ⟨h.size, fun k _ hk => h.block k hk⟩
theorem Since.refl (base : Nat) (u : World) : Since base u u := ⟨Nat.le_refl _, fun _ _ _ => rfl⟩
theorem Since.set {base p : Nat} {u v : World} (h : Since base u v) (hp : p < base) (o : Nat) (x : Value) : Since base u (v.setCell ⟨p, o, none⟩ x) :=
  ⟨by simpa using h.1, fun k hk hl => (Below.heap_setCell _ _ _ _ (by simp; omega)).trans (h.2 k hk hl)⟩
theorem Since.trans {base : Nat} {u v w : World} (h : Since base u v) (h' : Since base v w) : Since base u w := ⟨Nat.le_trans h.1 h'.1, fun k hk hl => (h'.2 k hk (Nat.lt_of_lt_of_le hl h.1)).trans (h.2 k hk hl)⟩
theorem Since.cell {base g o : Nat} {u v : World} (h : Since base u v) (hg : base ≤ g) (hl : g < u.heap.size) : v.cell? ⟨g, o, none⟩ = u.cell? ⟨g, o, none⟩ := by unfold World.cell?; rw [h.2 g hg hl]
theorem ShX.since {base g n : Nat} {t : TypeId} {u v : World} (h : ShX u g t n) (hs : Since base u v) (hg : base ≤ g) : ShX v g t n := by
  obtain ⟨cs, h1, h2⟩ := h
  exact ⟨cs, (hs.2 g hg h1.lt).trans h1, h2⟩
theorem Sls.since {α : Type} [Inhabited α] {enc : α → List Value} {n base g : Nat} {u v : World} {L : List α} (h : Sls enc n u u.heap.size (some ⟨g, 0, none⟩) L) (hs : Since base u v) (hg : base ≤ g) : Sls enc n v v.heap.size (some ⟨g, 0, none⟩) L := by
  intro i hi
  obtain ⟨b, off, e, hb, hc⟩ := h i hi
  simp only [Option.some.injEq, Addr.mk.injEq] at e
  obtain ⟨rfl, rfl, -⟩ := e
  exact ⟨_, _, rfl, Nat.lt_of_lt_of_le hb hs.1, fun j hj => (hs.cell hg hb).trans (hc j hj)⟩
theorem Ints.since {base g : Nat} {u v : World} {l : List Int} (h : Ints u .i64 u.heap.size (some ⟨g, 0, none⟩) l) (hs : Since base u v) (hg : base ≤ g) : Ints v .i64 v.heap.size (some ⟨g, 0, none⟩) l := by
  intro i hi
  obtain ⟨b, off, e, hb, hc⟩ := h i hi
  simp only [Option.some.injEq, Addr.mk.injEq] at e
  obtain ⟨rfl, rfl, -⟩ := e
  exact ⟨_, _, rfl, Nat.lt_of_lt_of_le hb hs.1, (hs.cell hg hb).trans hc⟩
def PartI (base : Nat) (u : World) (g : Nat) (l : List Int) : Prop := base ≤ g ∧ Ints u .i64 u.heap.size (some ⟨g, 0, none⟩) l ∧ ShX u g 2 l.length
def PartT (base : Nat) (u : World) (g : Nat) (l : List Tru) : Prop := base ≤ g ∧ Trs u u.heap.size (some ⟨g, 0, none⟩) l ∧ ShX u g 94 (l.length * 8)
def PartC (base : Nat) (u : World) (g : Nat) (l : List Ce) : Prop := base ≤ g ∧ Cls u u.heap.size (some ⟨g, 0, none⟩) l ∧ ShX u g 118 (l.length * 2)
def PartS (base : Nat) (u : World) (g : Nat) (S : List SlN) : Prop := base ≤ g ∧ ∃ f, u.rowIs g 91 (S.length * 4) f ∧ SlRow base u f S.length S
theorem PartI.since {base g : Nat} {u v : World} {l : List Int} (h : PartI base u g l) (hs : Since base u v) : PartI base v g l := ⟨h.1, h.2.1.since hs h.1, h.2.2.since hs h.1⟩
theorem PartT.since {base g : Nat} {u v : World} {l : List Tru} (h : PartT base u g l) (hs : Since base u v) : PartT base v g l := ⟨h.1, Sls.since h.2.1 hs h.1, h.2.2.since hs h.1⟩
theorem PartC.since {base g : Nat} {u v : World} {l : List Ce} (h : PartC base u g l) (hs : Since base u v) : PartC base v g l := ⟨h.1, Sls.since h.2.1 hs h.1, h.2.2.since hs h.1⟩
theorem SlRow.since {base k : Nat} {u v : World} {f : Nat → Value} {S : List SlN} (h : SlRow base u f k S) (hs : Since base u v) : SlRow base v f k S := by
  intro j hj
  obtain ⟨g, i, h1, h2, h3, h4, h5, h6, h7⟩ := h j hj
  exact ⟨g, i, h1, h2, h3, Sls.since h4 hs h2, Sls.since h5 hs h3, h6.since hs h2, h7.since hs h3⟩
theorem PartS.since {base g : Nat} {u v : World} {S : List SlN} (h : PartS base u g S) (hs : Since base u v) : PartS base v g S := by
  obtain ⟨h0, f, h1, h2⟩ := h
  exact ⟨h0, f, rowIs_block h1 (hs.2 g h0 h1.lt), h2.since hs⟩
theorem made_vol {base lo ga gb gc gd : Nat} {u : World} {x : VolG} (hl : lo ≤ base) (ha : PartI base u ga x.counts) (hb : PartT base u gb x.trusts) (hc : PartC base u gc x.cells) (hd : PartS base u gd x.slots) :
    OwnG u lo u.heap.size x (.agg #[.int .i64 x.key, .slice (some ⟨ga, 0, none⟩) x.counts.length x.counts.length, .slice (some ⟨gb, 0, none⟩) x.trusts.length x.trusts.length, .slice (some ⟨gc, 0, none⟩) x.cells.length x.cells.length, .slice (some ⟨gd, 0, none⟩) x.slots.length x.slots.length, .int .i64 x.count]) ∧ RdG u u.heap.size x (.agg #[.int .i64 x.key, .slice (some ⟨ga, 0, none⟩) x.counts.length x.counts.length, .slice (some ⟨gb, 0, none⟩) x.trusts.length x.trusts.length, .slice (some ⟨gc, 0, none⟩) x.cells.length x.cells.length, .slice (some ⟨gd, 0, none⟩) x.slots.length x.slots.length, .int .i64 x.count]) := by
  obtain ⟨h0, f, h1, h2⟩ := hd
  have la : ga < u.heap.size := by obtain ⟨cs, h, -⟩ := ha.2.2; exact h.lt
  have lb : gb < u.heap.size := by obtain ⟨cs, h, -⟩ := hb.2.2; exact h.lt
  have lc : gc < u.heap.size := by obtain ⟨cs, h, -⟩ := hc.2.2; exact h.lt
  refine ⟨⟨ga, gb, gc, gd, rfl, ⟨⟨Nat.le_trans hl ha.1, la⟩, ha.2.2⟩, ⟨⟨Nat.le_trans hl hb.1, lb⟩, hb.2.2⟩, ⟨⟨Nat.le_trans hl hc.1, lc⟩, hc.2.2⟩, ⟨Nat.le_trans hl h0, h1.lt⟩, ?_⟩,
    ⟨_, _, _, _, _, _, _, _, rfl, ha.2.1, hb.2.1, hc.2.1, SlRow.slots h2 h1, Nat.le_refl _, Nat.le_refl _⟩⟩
  obtain ⟨cs, c1, c2, c3⟩ := h1
  refine ⟨cs, c1, c2, fun j hj => ?_⟩
  obtain ⟨a, b, ⟨f0, f1, f2, f3⟩, s1, s2, s3, s4, s5, s6⟩ := h2 j hj
  have l1 : a < u.heap.size := by obtain ⟨cs, h, -⟩ := s5; exact h.lt
  have l2 : b < u.heap.size := by obtain ⟨cs, h, -⟩ := s6; exact h.lt
  exact ⟨a, b, ⟨Nat.le_trans hl s1, l1⟩, ⟨Nat.le_trans hl s2, l2⟩, (c3 _ (by omega)).trans (congrArg some f1), (c3 _ (by omega)).trans (congrArg some f3), s5, s6⟩
theorem toInts_part (key : Int) (A : Option Addr) (l : List Int) (cap : Nat) (w : World) (base : Nat) (hn : l.length ≤ 1048576) (hb : base ≤ w.heap.size) (hA : Ints w .i64 w.heap.size A l) :
    Calls Tryz.prog 105 #[.agg #[.int .i64 key, .slice A l.length cap]] w fun e w' => ∃ g, e = .returned (.agg #[.int .i64 key, .slice (some ⟨g, 0, none⟩) l.length l.length]) ∧ PartI base w' g l ∧ Below w.heap.size w w' := by
  refine (toPlanO_calls key A l cap w hn hA).mono ?_
  rintro e w' ⟨g, rfl, hg, hr, hbel⟩
  obtain ⟨cs, c1, c2, c3⟩ := hr
  have c1 : CellsAt w' g 2 cs := c1
  refine ⟨g, rfl, ⟨Nat.le_trans hb hg, fun i hi => ⟨g, 0, rfl, c1.lt, ?_⟩, cs, c1, by omega⟩, hbel⟩
  rw [Nat.zero_add, c1.cell]
  exact c3 i hi
theorem toTrusts_part (A : Option Addr) (L : List Tru) (cap : Nat) (w : World) (base : Nat) (hn : L.length ≤ 1048576) (hb : base ≤ w.heap.size) (hA : Trs w w.heap.size A L) :
    Calls Tryz.prog 106 #[.slice A L.length cap] w fun e w' => ∃ g, e = .returned (.slice (some ⟨g, 0, none⟩) L.length L.length) ∧ PartT base w' g L ∧ Below w.heap.size w w' := by
  refine (toTrusts_own A L cap w hn hA).mono ?_
  rintro e w' ⟨g, rfl, hg, -, h1, h2, h3⟩
  exact ⟨g, rfl, ⟨Nat.le_trans hb hg, h1, h2⟩, h3⟩
theorem toCels_part (A : Option Addr) (L : List Ce) (cap : Nat) (w : World) (base : Nat) (hn : L.length ≤ 1048576) (hb : base ≤ w.heap.size) (hA : Cls w w.heap.size A L) :
    Calls Tryz.prog 107 #[.slice A L.length cap] w fun e w' => ∃ g, e = .returned (.slice (some ⟨g, 0, none⟩) L.length L.length) ∧ PartC base w' g L ∧ Below w.heap.size w w' := by
  refine (toCels_own A L cap w hn hA).mono ?_
  rintro e w' ⟨g, rfl, hg, h1, h2, h3⟩
  exact ⟨g, rfl, ⟨Nat.le_trans hb hg, h1, h2⟩, h3⟩
theorem SlRow.down {base lo k : Nat} {u : World} {f : Nat → Value} {S : List SlN} (h : SlRow base u f k S) (hl : lo ≤ base) : SlRow lo u f k S := by
  intro j hj
  obtain ⟨g, i, h1, h2⟩ := h j hj
  exact ⟨g, i, h1, h2.down hl⟩
theorem toSlots_part (A : Option Addr) (S : List SlN) (cap : Nat) (w : World) (base : Nat) (hn : S.length ≤ 1048576) (hb : base ≤ w.heap.size) (hS : SlShort S) (hA : Slots w w.heap.size A S) :
    Calls Tryz.prog 108 #[.slice A S.length cap] w fun e w' => ∃ g, e = .returned (.slice (some ⟨g, 0, none⟩) S.length S.length) ∧ PartS base w' g S ∧ Below w.heap.size w w' := by
  refine (toSlotS_own A S cap w hn hA hS).mono ?_
  rintro e w' ⟨g, f, rfl, hg, h1, h2, h3⟩
  exact ⟨g, rfl, ⟨Nat.le_trans hb hg, f, h1, h2.down (by omega)⟩, h3⟩
set_option maxRecDepth 20000 in
set_option maxHeartbeats 16000000 in
theorem toVolume_calls (x : VolG) (v : Value) (w : World) (hx : x.Short) (h : RdG w w.heap.size x v) :
    Calls Tryz.prog 42 #[v] w fun e w' => ∃ v', e = .returned v' ∧ OwnG w' w.heap.size w'.heap.size x v' ∧ RdG w' w'.heap.size x v' ∧ Below w.heap.size w w' := by
  obtain ⟨A, c, B, d, C, e, E, s, rfl, i1, i2, i3, i4, -⟩ := h
  have K0 := Lib.hid (show Kept w [(w.heap.size + 1 + 1, 31, #[.int .i64 0, .slice none 0 0, .slice none 0 0, .slice none 0 0, .slice none 0 0, .int .i64 0]), (w.heap.size + 1, 31, #[.int .i64 0, .slice none 0 0, .slice none 0 0, .slice none 0 0, .slice none 0 0, .int .i64 0]), (w.heap.size, 64, #[.int .i64 x.key, .slice A x.counts.length c, .slice B x.trusts.length d, .slice C x.cells.length e, .slice E x.slots.length s, .int .i64 x.count])] _ from ((((Kept.refl w).put1 _ _ #[.int .i64 x.key, .slice A x.counts.length c, .slice B x.trusts.length d, .slice C x.cells.length e, .slice E x.slots.length s, .int .i64 x.count] rfl).put1 _ _ #[.int .i64 0, .slice none 0 0, .slice none 0 0, .slice none 0 0, .slice none 0 0, .int .i64 0] (by simp)).put1 _ _ #[.int .i64 0, .slice none 0 0, .slice none 0 0, .slice none 0 0, .slice none 0 0, .int .i64 0] (by simp)))
  have T1 := Lib.hid (fun (u : World) (hb : Below w.heap.size w u) (hl : w.heap.size + 1 + 1 + 1 ≤ u.heap.size) => toInts_part x.key A x.counts c u (w.heap.size + 1 + 1 + 1) hx.1 hl ((i1.below hb (Nat.le_refl _)).more hb.size))
  have T2 := Lib.hid (fun (u : World) (hb : Below w.heap.size w u) (hl : w.heap.size + 1 + 1 + 1 ≤ u.heap.size) => toTrusts_part B x.trusts d u (w.heap.size + 1 + 1 + 1) hx.2.1 hl ((i2.below hb (Nat.le_refl _)).more hb.size))
  have T3 := Lib.hid (fun (u : World) (hb : Below w.heap.size w u) (hl : w.heap.size + 1 + 1 + 1 ≤ u.heap.size) => toCels_part C x.cells e u (w.heap.size + 1 + 1 + 1) hx.2.2.1 hl ((i3.below hb (Nat.le_refl _)).more hb.size))
  have T4 := Lib.hid (fun (u : World) (hb : Below w.heap.size w u) (hl : w.heap.size + 1 + 1 + 1 ≤ u.heap.size) => toSlots_part E x.slots s u (w.heap.size + 1 + 1 + 1) hx.2.2.2.1 hl hx.2.2.2.2 ((i4.below hb (Nat.le_refl _)).more hb.size))
  have MV := Lib.hid (fun (ga gb gc gd : Nat) (u : World) => made_vol (base := w.heap.size + 1 + 1 + 1) (lo := w.heap.size) (ga := ga) (gb := gb) (gc := gc) (gd := gd) (u := u) (x := x) (by omega))
  clear hx i1 i2 i3 i4
  obtain ⟨key, l, L, M, S, cnt⟩ := x
  simp only [] at K0 T1 T2 T3 T4 MV ⊢
  go_enter Tryz.func42, Tryz.ntmps42
  go_wp2_with fail
  have k0 := K0.out
  have lt0 := Nat.succ_le_of_lt (k0.lt (x := (w.heap.size + 1 + 1, 31, #[.int .i64 0, .slice none 0 0, .slice none 0 0, .slice none 0 0, .slice none 0 0, .int .i64 0])) (by simp))
  refine (T1.out _ k0.1 lt0).mono ?_; rintro e u1 ⟨ga, rfl, p1, b1⟩
  have h1 := k0.below b1
  clear b1 k0 lt0
  obtain ⟨kc0, kf0, kc1, kf1, kc2, kf2, -⟩ := h1.rd
  have H1 := Lib.hid h1
  have P1 := Lib.hid p1
  clear h1 p1 
  go_wp2_with fail
  have k1 := ((H1.out.set (by intro x hx; simp at hx; rcases hx with rfl | rfl <;> simp <;> omega) 0 (.int .i64 key)).set (by intro x hx; simp at hx; rcases hx with rfl | rfl <;> simp <;> omega) 1 (.slice (some ⟨ga, 0, none⟩) l.length l.length))
  have s1 := (((Since.refl (w.heap.size + 1 + 1 + 1) u1).set (p := w.heap.size + 1 + 1) (by omega) 0 (.int .i64 key)).set (p := w.heap.size + 1 + 1) (by omega) 1 (.slice (some ⟨ga, 0, none⟩) l.length l.length))
  clear H1 kc0 kf0 kc1 kf1 kc2 kf2
  generalize World.setCell _ _ _ = v1 at k1 s1 ⊢
  have P1 := Lib.hid (P1.out.since s1)
  have lt1 : w.heap.size + 1 + 1 + 1 ≤ v1.heap.size := Nat.succ_le_of_lt (k1.lt (x := (w.heap.size + 1 + 1, 31, _)) (List.mem_cons_self ..))
  clear s1
  refine (T2.out _ k1.1 lt1).mono ?_; rintro e u2 ⟨gb, rfl, p2, b2⟩
  have h2 := k1.below b2
  have q1_2 := P1.out.since (Since.of_below b2)
  clear b2 k1 lt1 P1
  obtain ⟨kc0, kf0, kc1, kf1, kc2, kf2, -⟩ := h2.rd
  have H2 := Lib.hid h2
  have P2 := Lib.hid p2
  have P1 := Lib.hid q1_2
  clear h2 p2 q1_2
  go_wp2_with fail
  have k2 := (H2.out.set (by intro x hx; simp at hx; rcases hx with rfl | rfl <;> simp <;> omega) 2 (.slice (some ⟨gb, 0, none⟩) L.length L.length))
  have s2 := ((Since.refl (w.heap.size + 1 + 1 + 1) u2).set (p := w.heap.size + 1 + 1) (by omega) 2 (.slice (some ⟨gb, 0, none⟩) L.length L.length))
  clear H2 kc0 kf0 kc1 kf1 kc2 kf2
  generalize World.setCell _ _ _ = v2 at k2 s2 ⊢
  have P1 := Lib.hid (P1.out.since s2)
  have P2 := Lib.hid (P2.out.since s2)
  have lt2 : w.heap.size + 1 + 1 + 1 ≤ v2.heap.size := Nat.succ_le_of_lt (k2.lt (x := (w.heap.size + 1 + 1, 31, _)) (List.mem_cons_self ..))
  clear s2
  refine (T3.out _ k2.1 lt2).mono ?_; rintro e u3 ⟨gc, rfl, p3, b3⟩
  have h3 := k2.below b3
  have q1_3 := P1.out.since (Since.of_below b3)
  have q2_3 := P2.out.since (Since.of_below b3)
  clear b3 k2 lt2 P1 P2
  obtain ⟨kc0, kf0, kc1, kf1, kc2, kf2, -⟩ := h3.rd
  have H3 := Lib.hid h3
  have P3 := Lib.hid p3
  have P1 := Lib.hid q1_3
  have P2 := Lib.hid q2_3
  clear h3 p3 q1_3 q2_3
  go_wp2_with fail
  have k3 := (H3.out.set (by intro x hx; simp at hx; rcases hx with rfl | rfl <;> simp <;> omega) 3 (.slice (some ⟨gc, 0, none⟩) M.length M.length))
  have s3 := ((Since.refl (w.heap.size + 1 + 1 + 1) u3).set (p := w.heap.size + 1 + 1) (by omega) 3 (.slice (some ⟨gc, 0, none⟩) M.length M.length))
  clear H3 kc0 kf0 kc1 kf1 kc2 kf2
  generalize World.setCell _ _ _ = v3 at k3 s3 ⊢
  have P1 := Lib.hid (P1.out.since s3)
  have P2 := Lib.hid (P2.out.since s3)
  have P3 := Lib.hid (P3.out.since s3)
  have lt3 : w.heap.size + 1 + 1 + 1 ≤ v3.heap.size := Nat.succ_le_of_lt (k3.lt (x := (w.heap.size + 1 + 1, 31, _)) (List.mem_cons_self ..))
  clear s3
  refine (T4.out _ k3.1 lt3).mono ?_; rintro e u4 ⟨gd, rfl, p4, b4⟩
  have h4 := k3.below b4
  have q1_4 := P1.out.since (Since.of_below b4)
  have q2_4 := P2.out.since (Since.of_below b4)
  have q3_4 := P3.out.since (Since.of_below b4)
  clear b4 k3 lt3 P1 P2 P3
  obtain ⟨kc0, kf0, kc1, kf1, kc2, kf2, -⟩ := h4.rd
  have H4 := Lib.hid h4
  have P4 := Lib.hid p4
  have P1 := Lib.hid q1_4
  have P2 := Lib.hid q2_4
  have P3 := Lib.hid q3_4
  clear h4 p4 q1_4 q2_4 q3_4
  go_wp2_with fail
  have k5 := ((((((((H4.out.set (by intro x hx; simp at hx; rcases hx with rfl | rfl <;> simp <;> omega) 4 (.slice (some ⟨gd, 0, none⟩) S.length S.length)).set (by intro x hx; simp at hx; rcases hx with rfl | rfl <;> simp <;> omega) 5 (.int .i64 cnt)).tail.set (by intro x hx; simp at hx; subst hx; simp) 0 (.int .i64 key)).set (by intro x hx; simp at hx; subst hx; simp) 1 (.slice (some ⟨ga, 0, none⟩) l.length l.length)).set (by intro x hx; simp at hx; subst hx; simp) 2 (.slice (some ⟨gb, 0, none⟩) L.length L.length)).set (by intro x hx; simp at hx; subst hx; simp) 3 (.slice (some ⟨gc, 0, none⟩) M.length M.length)).set (by intro x hx; simp at hx; subst hx; simp) 4 (.slice (some ⟨gd, 0, none⟩) S.length S.length)).set (by intro x hx; simp at hx; subst hx; simp) 5 (.int .i64 cnt))
  have s5 := ((((((((Since.refl (w.heap.size + 1 + 1 + 1) u4).set (p := w.heap.size + 1 + 1) (by omega) 4 (.slice (some ⟨gd, 0, none⟩) S.length S.length)).set (p := w.heap.size + 1 + 1) (by omega) 5 (.int .i64 cnt)).set (p := w.heap.size + 1) (by omega) 0 (.int .i64 key)).set (p := w.heap.size + 1) (by omega) 1 (.slice (some ⟨ga, 0, none⟩) l.length l.length)).set (p := w.heap.size + 1) (by omega) 2 (.slice (some ⟨gb, 0, none⟩) L.length L.length)).set (p := w.heap.size + 1) (by omega) 3 (.slice (some ⟨gc, 0, none⟩) M.length M.length)).set (p := w.heap.size + 1) (by omega) 4 (.slice (some ⟨gd, 0, none⟩) S.length S.length)).set (p := w.heap.size + 1) (by omega) 5 (.int .i64 cnt)
  clear H4 kc0 kf0 kc1 kf1 kc2 kf2
  generalize World.setCell _ _ _ = v5 at k5 s5 ⊢
  obtain ⟨m1, m2⟩ := MV.out ga gb gc gd v5 (P1.out.since s5) (P2.out.since s5) (P3.out.since s5) (P4.out.since s5)
  have d0 : v5.cell? ⟨w.heap.size + 1, 0, none⟩ = some (.int .i64 key) := k5.cell (List.mem_cons_self ..) 0
  have d1 : v5.cell? ⟨w.heap.size + 1, 1, none⟩ = some (.slice (some ⟨ga, 0, none⟩) l.length l.length) := k5.cell (List.mem_cons_self ..) 1
  have d2 : v5.cell? ⟨w.heap.size + 1, 2, none⟩ = some (.slice (some ⟨gb, 0, none⟩) L.length L.length) := k5.cell (List.mem_cons_self ..) 2
  have d3 : v5.cell? ⟨w.heap.size + 1, 3, none⟩ = some (.slice (some ⟨gc, 0, none⟩) M.length M.length) := k5.cell (List.mem_cons_self ..) 3
  have d4 : v5.cell? ⟨w.heap.size + 1, 4, none⟩ = some (.slice (some ⟨gd, 0, none⟩) S.length S.length) := k5.cell (List.mem_cons_self ..) 4
  have d5 : v5.cell? ⟨w.heap.size + 1, 5, none⟩ = some (.int .i64 cnt) := k5.cell (List.mem_cons_self ..) 5
  exact bodyPost_ret (v := .agg #[.int .i64 key, .slice (some ⟨ga, 0, none⟩) l.length l.length, .slice (some ⟨gb, 0, none⟩) L.length L.length, .slice (some ⟨gc, 0, none⟩) M.length M.length, .slice (some ⟨gd, 0, none⟩) S.length S.length, .int .i64 cnt]) (by simp [results, Tryz.results42, go_sem, d0, d1, d2, d3, d4, d5]) rfl ⟨_, rfl, m1, m2, k5.1⟩
set_option maxRecDepth 20000 in
set_option maxHeartbeats 16000000 in
theorem eqVolume_same (x : VolG) (v v' : Value) (w : World) (hx : x.Short) (h : RdG w w.heap.size x v) (h' : RdG w w.heap.size x v') :
    Calls Tryz.prog 43 #[v, v'] w fun e w' => e = .returned (.bool true) ∧ Below w.heap.size w w' := by
  obtain ⟨A, c, B, d, C, e, E, s, rfl, i1, i2, i3, i4, -⟩ := h
  obtain ⟨A2, c2, B2, d2, C2, e2, E2, s2, rfl, j1, j2, j3, j4, -⟩ := h'
  have K0 := Lib.hid (show Kept w [(w.heap.size + 1, 31, #[.int .i64 x.key, .slice A2 x.counts.length c2, .slice B2 x.trusts.length d2, .slice C2 x.cells.length e2, .slice E2 x.slots.length s2, .int .i64 x.count]), (w.heap.size, 31, #[.int .i64 x.key, .slice A x.counts.length c, .slice B x.trusts.length d, .slice C x.cells.length e, .slice E x.slots.length s, .int .i64 x.count])] _ from (((Kept.refl w).put1 _ _ #[.int .i64 x.key, .slice A x.counts.length c, .slice B x.trusts.length d, .slice C x.cells.length e, .slice E x.slots.length s, .int .i64 x.count] rfl).put1 _ _ #[.int .i64 x.key, .slice A2 x.counts.length c2, .slice B2 x.trusts.length d2, .slice C2 x.cells.length e2, .slice E2 x.slots.length s2, .int .i64 x.count] (by simp)))
  have T1 := Lib.hid (fun (u : World) (hb : Below w.heap.size w u) => eqPlan_same x.key A A2 x.counts c c2 u hx.1 ((i1.below hb (Nat.le_refl _)).more hb.size) ((j1.below hb (Nat.le_refl _)).more hb.size))
  have T2 := Lib.hid (fun (u : World) (hb : Below w.heap.size w u) => eqTrustS_same B B2 x.trusts d d2 u (by have := hx.2.1; unfold maxLen; omega) ((i2.below hb (Nat.le_refl _)).more hb.size) ((j2.below hb (Nat.le_refl _)).more hb.size))
  have T3 := Lib.hid (fun (u : World) (hb : Below w.heap.size w u) => eqCellS_same C C2 x.cells e e2 u (by have := hx.2.2.1; unfold maxLen; omega) ((i3.below hb (Nat.le_refl _)).more hb.size) ((j3.below hb (Nat.le_refl _)).more hb.size))
  have T4 := Lib.hid (fun (u : World) (hb : Below w.heap.size w u) => eqSlotS_same E E2 x.slots s s2 u (by have := hx.2.2.2.1; unfold maxLen; omega) hx.2.2.2.2 ((i4.below hb (Nat.le_refl _)).more hb.size) ((j4.below hb (Nat.le_refl _)).more hb.size))
  clear hx i1 i2 i3 i4 j1 j2 j3 j4
  obtain ⟨key, l, L, M, S, cnt⟩ := x
  simp only [] at K0 T1 T2 T3 T4
  go_enter Tryz.func43, Tryz.ntmps43
  go_wp2_with fail
  have h0 := K0.out
  clear K0
  obtain ⟨kc0, kf0, kc1, kf1, -⟩ := h0.rd
  have H0 := Lib.hid h0
  clear h0
  go_wp2_with fail
  refine (T1.out _ H0.out.1).mono ?_; rintro e u1 ⟨rfl, b1⟩
  have h1 := H0.out.below b1
  clear b1 kc0 kf0 kc1 kf1 H0
  obtain ⟨kc0, kf0, kc1, kf1, -⟩ := h1.rd
  have H1 := Lib.hid h1
  clear h1
  go_wp2_with fail
  refine (T2.out _ H1.out.1).mono ?_; rintro e u2 ⟨rfl, b2⟩
  have h2 := H1.out.below b2
  clear b2 kc0 kf0 kc1 kf1 H1
  obtain ⟨kc0, kf0, kc1, kf1, -⟩ := h2.rd
  have H2 := Lib.hid h2
  clear h2
  go_wp2_with fail
  refine (T3.out _ H2.out.1).mono ?_; rintro e u3 ⟨rfl, b3⟩
  have h3 := H2.out.below b3
  clear b3 kc0 kf0 kc1 kf1 H2
  obtain ⟨kc0, kf0, kc1, kf1, -⟩ := h3.rd
  have H3 := Lib.hid h3
  clear h3
  go_wp2_with fail
  refine (T4.out _ H3.out.1).mono ?_; rintro e u4 ⟨rfl, b4⟩
  have h4 := H3.out.below b4
  clear b4 kc0 kf0 kc1 kf1 H3
  obtain ⟨kc0, kf0, kc1, kf1, -⟩ := h4.rd
  have H4 := Lib.hid h4
  clear h4
  go_wp2_with fail
  go_ret
  exact ⟨rfl, H4.out.1⟩
set_option maxRecDepth 20000 in
set_option maxHeartbeats 16000000 in
theorem szVolume_calls (x : VolG) (A : Option Addr) (c : Nat) (B : Option Addr) (d : Nat) (C : Option Addr) (e : Nat) (E : Option Addr) (s : Nat) (w : World) (h1 : x.counts.length ≤ maxLen) (h2 : x.trusts.length ≤ maxLen) (h3 : x.cells.length ≤ maxLen) (h4 : x.slots.length ≤ maxLen) (hE : Slots w w.heap.size E x.slots) (hS : ∀ i, i < x.slots.length → (x.slots.getD i default).trusts.length ≤ maxLen ∧ (x.slots.getD i default).cells.length ≤ maxLen) :
    Calls Tryz.prog 41 #[.agg #[.int .i64 x.key, .slice A x.counts.length c, .slice B x.trusts.length d, .slice C x.cells.length e, .slice E x.slots.length s, .int .i64 x.count], .int .i64 1048576] w fun e w' => ∃ r : Int, e = .returned (.int .i64 r) ∧ (r = -1 ∨ 0 ≤ r ∧ x.Short) ∧ Below w.heap.size w w' := by
  have K0 := Lib.hid (show Kept w [(w.heap.size, 64, #[.int .i64 x.key, .slice A x.counts.length c, .slice B x.trusts.length d, .slice C x.cells.length e, .slice E x.slots.length s, .int .i64 x.count])] _ from ((Kept.refl w).put1 _ _ #[.int .i64 x.key, .slice A x.counts.length c, .slice B x.trusts.length d, .slice C x.cells.length e, .slice E x.slots.length s, .int .i64 x.count] rfl))
  have T4 := Lib.hid (fun (left : Int) (l0 : 0 ≤ left) (l1 : left ≤ 1048576) (u : World) (hb : Below w.heap.size w u) => szSlotS_calls E x.slots s left u l0 l1 h4 ((hE.below hb (Nat.le_refl _)).more hb.size) hS)
  clear hE hS
  have X1 := Lib.hid (fun (a : x.counts.length ≤ 1048576) (b : x.trusts.length ≤ 1048576) (c : x.cells.length ≤ 1048576) (d : x.slots.length ≤ 1048576 ∧ SlShort x.slots) => show x.Short from ⟨a, b, c, d.1, d.2⟩)
  generalize x.Short = sh at X1 ⊢
  obtain ⟨key, l, L, M, S, cnt⟩ := x
  simp only [] at K0 T4 X1 h1 h2 h3 h4 ⊢
  by_cases c1 : l.length ≤ 1048576
  · have T1 := Lib.hid (fun u => szPlan_yes key A l.length c u c1)
    have g1 : ¬ (1048576 : Int) - l.length < 0 := by omega
    have T2 := Lib.hid (fun u => szTrustS_calls B L.length d (1048576 - l.length) u (by omega) (by omega) h2)
    by_cases c2 : (L.length : Int) ≤ 1048576 - l.length
    · rw [if_pos c2] at T2
      have g2 : ¬ (1048576 : Int) - l.length - L.length < 0 := by omega
      have T3 := Lib.hid (fun u => szCellS_calls C M.length e (1048576 - l.length - L.length) u (by omega) (by omega) h3)
      by_cases c3 : (M.length : Int) ≤ 1048576 - l.length - L.length
      · rw [if_pos c3] at T3
        have g3 : ¬ (1048576 : Int) - l.length - L.length - M.length < 0 := by omega
        have T4' := Lib.hid (T4.out (1048576 - l.length - L.length - M.length) (by omega) (by omega))
        have X2 := Lib.hid (X1.out c1 (by omega) (by omega))
        clear T4 X1 h1 h2 h3 h4 c1 c2 c3
        go_enter Tryz.func41, Tryz.ntmps41
        go_wp2_with fail
        obtain ⟨kc0, kf0, -⟩ := K0.out.rd
        go_wp2_with fail
        refine (T1.out _).mono ?_; rintro e u1 ⟨rfl, b1⟩
        have H1 := Lib.hid (K0.out.below b1)
        clear b1 kc0 kf0 K0
        obtain ⟨kc0, kf0, -⟩ := H1.out.rd
        go_wp2_with fail
        refine (T2.out _).mono ?_; rintro e u2 ⟨rfl, rfl⟩
        go_wp2_with fail
        refine (T3.out _).mono ?_; rintro e u3 ⟨rfl, rfl⟩
        go_wp2_with fail
        refine (T4'.out _ H1.out.1).mono ?_; rintro e u4 ⟨r, rfl, hr, b4⟩
        have B4 := Lib.hid (H1.out.below b4).1
        clear b4 kc0 kf0
        rcases hr with rfl | ⟨r0, r1, r2⟩
        · go_wp2_with fail
          go_ret
          exact ⟨_, rfl, .inl rfl, B4.out⟩
        · have hr : ¬ r < 0 := by omega
          have X3 := Lib.hid (X2.out r2)
          clear r1 r2
          go_wp2_with fail
          go_ret
          exact ⟨_, rfl, .inr ⟨r0, X3.out⟩, B4.out⟩
      · rw [if_neg c3] at T3
        clear T4 X1 h1 h2 h3 h4 c1 c2 c3
        go_enter Tryz.func41, Tryz.ntmps41
        go_wp2_with fail
        obtain ⟨kc0, kf0, -⟩ := K0.out.rd
        go_wp2_with fail
        refine (T1.out _).mono ?_; rintro e u1 ⟨rfl, b1⟩
        have H1 := Lib.hid (K0.out.below b1)
        clear b1 kc0 kf0 K0
        obtain ⟨kc0, kf0, -⟩ := H1.out.rd
        go_wp2_with fail
        refine (T2.out _).mono ?_; rintro e u2 ⟨rfl, rfl⟩
        go_wp2_with fail
        refine (T3.out _).mono ?_; rintro e u3 ⟨rfl, rfl⟩
        go_wp2_with fail
        go_ret
        exact ⟨_, rfl, .inl rfl, H1.out.1⟩
    · rw [if_neg c2] at T2
      clear T4 X1 h1 h2 h3 h4 c1 c2
      go_enter Tryz.func41, Tryz.ntmps41
      go_wp2_with fail
      obtain ⟨kc0, kf0, -⟩ := K0.out.rd
      go_wp2_with fail
      refine (T1.out _).mono ?_; rintro e u1 ⟨rfl, b1⟩
      have H1 := Lib.hid (K0.out.below b1)
      clear b1 kc0 kf0 K0
      obtain ⟨kc0, kf0, -⟩ := H1.out.rd
      go_wp2_with fail
      refine (T2.out _).mono ?_; rintro e u2 ⟨rfl, rfl⟩
      go_wp2_with fail
      go_ret
      exact ⟨_, rfl, .inl rfl, H1.out.1⟩
  · have T1 := Lib.hid (fun u => szPlan_no key A l.length c u h1 (by omega))
    clear T4 X1 h1 h2 h3 h4 c1
    go_enter Tryz.func41, Tryz.ntmps41
    go_wp2_with fail
    obtain ⟨kc0, kf0, -⟩ := K0.out.rd
    go_wp2_with fail
    refine (T1.out _).mono ?_; rintro e u1 ⟨rfl, b1⟩
    have H1 := Lib.hid (K0.out.below b1)
    clear b1 kc0 kf0 K0
    go_wp2_with fail
    go_ret
    exact ⟨_, rfl, .inl rfl, H1.out.1⟩
theorem RdG.six {w : World} {Bd : Nat} {x : VolG} {v : Value} (h : RdG w Bd x v) : ∃ k A n c B m d C p e E q s t, v = .agg #[.int .i64 k, .slice A n c, .slice B m d, .slice C p e, .slice E q s, .int .i64 t] := by
  obtain ⟨A, c, B, d, C, e, E, s, rfl, -⟩ := h
  exact ⟨_, _, _, _, _, _, _, _, _, _, _, _, _, _, rfl⟩
def LawVol (w : World) (x : VolG) (v : Value) : Prop := RdG w w.heap.size x v ∧ (x.Short → x.Int64) ∧ x.counts.length ≤ maxLen ∧ x.trusts.length ≤ maxLen ∧ x.cells.length ≤ maxLen ∧ x.slots.length ≤ maxLen ∧ ∀ i, i < x.slots.length → (x.slots.getD i default).trusts.length ≤ maxLen ∧ (x.slots.getD i default).cells.length ≤ maxLen
def AnsVolumeOk : Prop := ∀ (x : VolG) (v : Value) (w : World), x.Short → x.Int64 → RdG w w.heap.size x v →
  Calls Tryz.prog 24 #[v] w fun e w' => e = .returned (.bool x.okB) ∧ Below w.heap.size w w'
end Go.Proofs.YteoijmejhdocdaaGreatDoor.Mx

import Derived.Test.YteoijmejhdocdaaGreatDoorG11
import Derived.Test.YteoijmejhdocdaaGreatDoorG07
namespace Go.Proofs.YteoijmejhdocdaaGreatDoor.Mx
open Go.ChangeShapes Go.WideShapes Go.ChangeAt Go.RowKit
set_option linter.unusedVariables false
theorem Sls.setOther {α : Type} [Inhabited α] {enc : α → List Value} {n : Nat} {w : World} {Bd g p o : Nat} {L : List α} (h : Sls enc n w Bd (some ⟨g, 0, none⟩) L) (hne : p ≠ g) (v : Value) : Sls enc n (w.setCell ⟨p, o, none⟩ v) Bd (some ⟨g, 0, none⟩) L := by
  intro i hi
  obtain ⟨b, off, e, hb, hc⟩ := h i hi
  injection e with e
  injection e with e1 e2 e3
  subst e1
  refine ⟨_, off, by rw [e2], hb, fun j hj => ?_⟩
  rw [← hc j hj]
  unfold World.cell?
  rw [Below.heap_setCell _ _ _ _ (by simp; omega)]
def ShX (w : World) (g : Nat) (t : TypeId) (n : Nat) : Prop := ∃ cs, CellsAt w g t cs ∧ n ≤ cs.size
theorem ShX.below {w u : World} {g n : Nat} {t : TypeId} (h : ShX w g t n) (hb : Below w.heap.size w u) : ShX u g t n := by
  obtain ⟨cs, h1, h2⟩ := h
  exact ⟨cs, h1.below hb h1.lt, h2⟩
theorem ShX.off {w : World} {g p n : Nat} {t : TypeId} (h : ShX w g t n) (hne : p ≠ g) (o : Nat) (v : Value) : ShX (w.setCell ⟨p, o, none⟩ v) g t n := by
  obtain ⟨cs, h1, h2⟩ := h
  exact ⟨cs, h1.off_ hne o v, h2⟩
def SlB (base : Nat) (w : World) (g h : Nat) (s : SlN) : Prop := base ≤ g ∧ base ≤ h ∧ Trs w w.heap.size (some ⟨g, 0, none⟩) s.trusts ∧ Cls w w.heap.size (some ⟨h, 0, none⟩) s.cells ∧ ShX w g 94 (s.trusts.length * 8) ∧ ShX w h 118 (s.cells.length * 2)
theorem SlB.below {base g h : Nat} {w u : World} {s : SlN} (x : SlB base w g h s) (hb : Below w.heap.size w u) : SlB base u g h s := ⟨x.1, x.2.1, (x.2.2.1.below hb (Nat.le_refl _)).more hb.size, (x.2.2.2.1.below hb (Nat.le_refl _)).more hb.size, x.2.2.2.2.1.below hb, x.2.2.2.2.2.below hb⟩
theorem SlB.down {base lo g h : Nat} {w : World} {s : SlN} (x : SlB base w g h s) (hl : lo ≤ base) : SlB lo w g h s := ⟨Nat.le_trans hl x.1, Nat.le_trans hl x.2.1, x.2.2⟩
theorem SlB.set {base g h p o : Nat} {w : World} {s : SlN} (x : SlB base w g h s) (hp : p < base) (v : Value) : SlB base (w.setCell ⟨p, o, none⟩ v) g h s := by
  have hs : w.heap.size ≤ (w.setCell ⟨p, o, none⟩ v).heap.size := by simp
  have h1 := x.1
  have h2 := x.2.1
  exact ⟨h1, h2, (Sls.setOther x.2.2.1 (by omega) v).more hs, (Sls.setOther x.2.2.2.1 (by omega) v).more hs, x.2.2.2.2.1.off (by omega) o v, x.2.2.2.2.2.off (by omega) o v⟩
theorem toCels_own (A : Option Addr) (L : List Ce) (cap : Nat) (w : World) (hn : L.length ≤ 1048576) (hA : Cls w w.heap.size A L) :
    Calls Tryz.prog 107 #[.slice A L.length cap] w fun e w' => ∃ g, e = .returned (.slice (some ⟨g, 0, none⟩) L.length L.length) ∧ w.heap.size ≤ g ∧ Cls w' w'.heap.size (some ⟨g, 0, none⟩) L ∧ ShX w' g 118 (L.length * 2) ∧ Below w.heap.size w w' := by
  refine (toCellS_calls A L cap w hn hA).mono ?_
  rintro e w' ⟨rfl, hb, hlt, hr⟩
  refine ⟨_, rfl, Nat.le_refl _, (sls_CellS hr).more hlt, ?_, hb⟩
  obtain ⟨cs, h1, h2, h3⟩ := hr
  exact ⟨cs, h1, by omega⟩
set_option maxRecDepth 20000 in
set_option maxHeartbeats 8000000 in
theorem toSlot_calls (cnt mac : Int) (B C : Option Addr) (L : List Tru) (M : List Ce) (tc cc : Nat) (w : World) (hn : L.length ≤ 1048576) (hm : M.length ≤ 1048576) (hB : Trs w w.heap.size B L) (hC : Cls w w.heap.size C M) :
    Calls Tryz.prog 178 #[.agg #[.int .i64 cnt, .slice B L.length tc, .int .i64 mac, .slice C M.length cc]] w fun e w' => ∃ g h, e = .returned (.agg #[.int .i64 cnt, .slice (some ⟨g, 0, none⟩) L.length L.length, .int .i64 mac, .slice (some ⟨h, 0, none⟩) M.length M.length]) ∧ SlB w.heap.size w' g h ⟨cnt, L, mac, M⟩ ∧ Below w.heap.size w w' := by
  have K0 := Lib.hid (show Kept w [(w.heap.size + 1 + 1, 91, #[.int .i64 0, .slice none 0 0, .int .i64 0, .slice none 0 0]), (w.heap.size + 1, 91, #[.int .i64 0, .slice none 0 0, .int .i64 0, .slice none 0 0]), (w.heap.size, 180, #[.int .i64 cnt, .slice B L.length tc, .int .i64 mac, .slice C M.length cc])] _ from ((((Kept.refl w).put1 _ _ #[.int .i64 cnt, .slice B L.length tc, .int .i64 mac, .slice C M.length cc] rfl).put1 _ _ #[.int .i64 0, .slice none 0 0, .int .i64 0, .slice none 0 0] (by simp)).put1 _ _ #[.int .i64 0, .slice none 0 0, .int .i64 0, .slice none 0 0] (by simp)))
  have T := Lib.hid (fun u (hb : Below w.heap.size w u) => toSeal_own cnt mac B L tc u hn ((hB.below hb (Nat.le_refl _)).more hb.size))
  have U := Lib.hid (fun u (hb : Below w.heap.size w u) => toCels_own C M cc u hm ((hC.below hb (Nat.le_refl _)).more hb.size))
  clear hB hC hn hm
  go_enter Tryz.func178, Tryz.ntmps178
  go_wp2_with fail
  refine (T.out _ K0.out.1).mono ?_; rintro e w1 ⟨g, rfl, hg0, ht, hsT, b1⟩
  have h1 := K0.out.below b1
  have hg2 : w.heap.size + 1 + 1 < g := Nat.lt_of_lt_of_le (by simp <;> omega) hg0
  clear b1 hg0 T K0
  obtain ⟨kc0, kf0, kc1, kf1, kc2, kf2, -⟩ := h1.rd
  have H1 := Lib.hid h1
  have HT := Lib.hid ht
  have ST := Lib.hid hsT
  have G2 := Lib.hid hg2
  clear h1 ht hg2 hsT
  go_wp2_with fail
  have k2 := ((H1.out.set (by intro x hx; simp at hx; rcases hx with rfl | rfl <;> simp <;> omega) 0 (.int .i64 cnt)).set (by intro x hx; simp at hx; rcases hx with rfl | rfl <;> simp <;> omega) 1 (.slice (some ⟨g, 0, none⟩) L.length L.length)).set (by intro x hx; simp at hx; rcases hx with rfl | rfl <;> simp <;> omega) 2 (.int .i64 mac)
  have ht2 := ((HT.out.setOther (p := w.heap.size + 1 + 1) (o := 0) (by have := G2.out; omega) (.int .i64 cnt)).setOther (p := w.heap.size + 1 + 1) (o := 1) (by have := G2.out; omega) (.slice (some ⟨g, 0, none⟩) L.length L.length)).setOther (p := w.heap.size + 1 + 1) (o := 2) (by have := G2.out; omega) (.int .i64 mac)
  have hs2 : w1.heap.size ≤ (((w1.setCell ⟨w.heap.size + 1 + 1, 0, none⟩ (.int .i64 cnt)).setCell ⟨w.heap.size + 1 + 1, 1, none⟩ (.slice (some ⟨g, 0, none⟩) L.length L.length)).setCell ⟨w.heap.size + 1 + 1, 2, none⟩ (.int .i64 mac)).heap.size := by simp
  have st2 : ShX (((w1.setCell ⟨w.heap.size + 1 + 1, 0, none⟩ (.int .i64 cnt)).setCell ⟨w.heap.size + 1 + 1, 1, none⟩ (.slice (some ⟨g, 0, none⟩) L.length L.length)).setCell ⟨w.heap.size + 1 + 1, 2, none⟩ (.int .i64 mac)) g 94 (L.length * 8) := by
    have hg := G2.out
    exact (((show ShX w1 g 94 (L.length * 8) from ST.out).off (by omega) 0 _).off (by omega) 1 _).off (by omega) 2 _
  clear H1 HT ST kc0 kf0 kc1 kf1 kc2 kf2
  generalize World.setCell _ _ _ = w2 at k2 ht2 hs2 st2 ⊢
  have lt2 : w.heap.size + 1 + 1 < w2.heap.size := k2.lt (x := (w.heap.size + 1 + 1, 91, #[.int .i64 cnt, .slice (some ⟨g, 0, none⟩) L.length L.length, .int .i64 mac, .slice none 0 0])) (by simp)
  refine (U.out _ k2.1).mono ?_; rintro e w3 ⟨h, rfl, hh0, hc, hsC, b3⟩
  have h3 := k2.below b3
  have ht3 := (ht2.more hs2).below b3 (Nat.le_refl _)
  have hh2 : w.heap.size + 1 + 1 < h := Nat.lt_of_lt_of_le lt2 hh0
  have hs3 := b3.size
  have ST := Lib.hid (st2.below b3)
  have SC := Lib.hid hsC
  clear b3 k2 ht2 hs2 U hh0 lt2 st2 hsC
  obtain ⟨kc0, kf0, kc1, kf1, kc2, kf2, -⟩ := h3.rd
  have H3 := Lib.hid h3
  have HT := Lib.hid (ht3.more hs3)
  have HC := Lib.hid hc
  have G3 := Lib.hid hh2
  clear h3 ht3 hh2 hc hs3
  go_wp2_with fail
  have k4 := H3.out.set (by intro x hx; simp at hx; rcases hx with rfl | rfl <;> simp <;> omega) 3 (.slice (some ⟨h, 0, none⟩) M.length M.length)
  have k5 := (((k4.tail.set (by intro x hx; simp at hx; subst hx; simp) 0 (.int .i64 cnt)).set (by intro x hx; simp at hx; subst hx; simp) 1 (.slice (some ⟨g, 0, none⟩) L.length L.length)).set (by intro x hx; simp at hx; subst hx; simp) 2 (.int .i64 mac)).set (by intro x hx; simp at hx; subst hx; simp) 3 (.slice (some ⟨h, 0, none⟩) M.length M.length)
  have hx : SlB (w.heap.size + 1 + 1 + 1) w3 g h ⟨cnt, L, mac, M⟩ := ⟨by have := G2.out; omega, by have := G3.out; omega, HT.out, HC.out, ST.out, SC.out⟩
  have hx5 := ((((hx.set (p := w.heap.size + 1 + 1) (o := 3) (by omega) (.slice (some ⟨h, 0, none⟩) M.length M.length)).set (p := w.heap.size + 1) (o := 0) (by omega) (.int .i64 cnt)).set (p := w.heap.size + 1) (o := 1) (by omega) (.slice (some ⟨g, 0, none⟩) L.length L.length)).set (p := w.heap.size + 1) (o := 2) (by omega) (.int .i64 mac)).set (p := w.heap.size + 1) (o := 3) (by omega) (.slice (some ⟨h, 0, none⟩) M.length M.length)
  clear hx k4 H3 HT HC ST SC kc0 kf0 kc1 kf1 kc2 kf2
  generalize World.setCell _ _ _ = w4 at k5 hx5 ⊢
  have d0 : w4.cell? ⟨w.heap.size + 1, 0, none⟩ = some (.int .i64 cnt) := k5.cell (List.mem_cons_self ..) 0
  have d1 : w4.cell? ⟨w.heap.size + 1, 1, none⟩ = some (.slice (some ⟨g, 0, none⟩) L.length L.length) := k5.cell (List.mem_cons_self ..) 1
  have d2 : w4.cell? ⟨w.heap.size + 1, 2, none⟩ = some (.int .i64 mac) := k5.cell (List.mem_cons_self ..) 2
  have d3 : w4.cell? ⟨w.heap.size + 1, 3, none⟩ = some (.slice (some ⟨h, 0, none⟩) M.length M.length) := k5.cell (List.mem_cons_self ..) 3
  exact bodyPost_ret (v := .agg #[.int .i64 cnt, .slice (some ⟨g, 0, none⟩) L.length L.length, .int .i64 mac, .slice (some ⟨h, 0, none⟩) M.length M.length]) (by simp [results, Tryz.results178, go_sem, d0, d1, d2, d3]) rfl ⟨g, h, rfl, hx5.down (by omega), k5.1⟩
def SlF (f : Nat → Value) (j g h : Nat) (s : SlN) : Prop := f (j * 4) = .int .i64 s.count ∧ f (j * 4 + 1) = .slice (some ⟨g, 0, none⟩) s.trusts.length s.trusts.length ∧ f (j * 4 + 2) = .int .i64 s.mac ∧ f (j * 4 + 3) = .slice (some ⟨h, 0, none⟩) s.cells.length s.cells.length
def put4 (f : Nat → Value) (k : Nat) (a b c d : Value) : Nat → Value := fun i => if i = k * 4 + 3 then d else if i = k * 4 + 2 then c else if i = k * 4 + 1 then b else if i = k * 4 then a else f i
theorem SlF.put {f : Nat → Value} {j g h k : Nat} {s : SlN} (x : SlF f j g h s) (hj : j < k) (a b c d : Value) : SlF (put4 f k a b c d) j g h s := by
  have off : ∀ o, o < 4 → put4 f k a b c d (j * 4 + o) = f (j * 4 + o) := by
    intro o ho
    unfold put4
    rw [if_neg (by omega), if_neg (by omega), if_neg (by omega), if_neg (by omega)]
  exact ⟨(off 0 (by omega)).trans x.1, (off 1 (by omega)).trans x.2.1, (off 2 (by omega)).trans x.2.2.1, (off 3 (by omega)).trans x.2.2.2⟩
theorem SlF.here (f : Nat → Value) (k g h : Nat) (s : SlN) : SlF (put4 f k (.int .i64 s.count) (.slice (some ⟨g, 0, none⟩) s.trusts.length s.trusts.length) (.int .i64 s.mac) (.slice (some ⟨h, 0, none⟩) s.cells.length s.cells.length)) k g h s := by
  refine ⟨?_, ?_, ?_, ?_⟩ <;> unfold put4
  · rw [if_neg (by omega), if_neg (by omega), if_neg (by omega), if_pos rfl]
  · rw [if_neg (by omega), if_neg (by omega), if_pos rfl]
  · rw [if_neg (by omega), if_pos rfl]
  · rw [if_pos rfl]
def SlRow (base : Nat) (w : World) (f : Nat → Value) (k : Nat) (S : List SlN) : Prop := ∀ j, j < k → ∃ g h, SlF f j g h (S.getD j default) ∧ SlB base w g h (S.getD j default)
theorem SlRow.below {base k : Nat} {w u : World} {f : Nat → Value} {S : List SlN} (x : SlRow base w f k S) (hb : Below w.heap.size w u) : SlRow base u f k S := by
  intro j hj
  obtain ⟨g, h, h1, h2⟩ := x j hj
  exact ⟨g, h, h1, h2.below hb⟩
theorem SlRow.next {base k p g h : Nat} {w : World} {f : Nat → Value} {S : List SlN} {s : SlN} (x : SlRow base w f k S) (hs : S.getD k default = s) (y : SlB base w g h s) (hp : p < base) :
    SlRow base ((((w.setCell ⟨p, k * 4, none⟩ (.int .i64 s.count)).setCell ⟨p, k * 4 + 1, none⟩ (.slice (some ⟨g, 0, none⟩) s.trusts.length s.trusts.length)).setCell ⟨p, k * 4 + 2, none⟩ (.int .i64 s.mac)).setCell ⟨p, k * 4 + 3, none⟩ (.slice (some ⟨h, 0, none⟩) s.cells.length s.cells.length)) (put4 f k (.int .i64 s.count) (.slice (some ⟨g, 0, none⟩) s.trusts.length s.trusts.length) (.int .i64 s.mac) (.slice (some ⟨h, 0, none⟩) s.cells.length s.cells.length)) (k + 1) S := by
  intro j hj
  rcases Nat.lt_or_ge j k with h1 | h1
  · obtain ⟨g', h', h2, h3⟩ := x j h1
    exact ⟨g', h', h2.put h1 _ _ _ _, (((h3.set hp _).set hp _).set hp _).set hp _⟩
  · obtain rfl : j = k := by omega
    subst hs
    exact ⟨g, h, SlF.here f j g h _, (((y.set hp _).set hp _).set hp _).set hp _⟩
theorem SlRow.slots {base g : Nat} {w : World} {ty : TypeId} {f : Nat → Value} {S : List SlN} (x : SlRow base w f S.length S) (hr : w.rowIs g ty (S.length * 4) f) : Slots w w.heap.size (some ⟨g, 0, none⟩) S := by
  intro i hi
  obtain ⟨a, b, ⟨f0, f1, f2, f3⟩, _, _, ht, hc, -⟩ := x i hi
  have hc' : ∀ o v, o < 4 → f (i * 4 + o) = v → w.cell? ⟨g, 0 + i * 4 + o, none⟩ = some v := by
    intro o v ho e
    rw [Nat.zero_add, ← e]
    exact hr.cell (by omega)
  exact ⟨g, 0, rfl, hr.lt, _, _, _, _, hc' 0 _ (by omega) f0, hc' 1 _ (by omega) f1, hc' 2 _ (by omega) f2, hc' 3 _ (by omega) f3, ht, hc⟩
theorem info_slo : (Tryz.prog.info? 91).map (fun i => (i.zero, i.size, i.bytes)) = some (some (.agg #[.int .i64 0, .slice none 0 0, .int .i64 0, .slice none 0 0]), 4, 64) := by kernel_rfl
theorem made_SlotS (w : World) (n : Nat) : ∃ f, (w.alloc (.cells (madeCells (Value.agg #[.int .i64 0, .slice none 0 0, .int .i64 0, .slice none 0 0]).cells (n * 4)) 91)).rowIs w.heap.size 91 (n * 4) f := by
  refine ⟨fun i => (((madeCells (Value.agg #[.int .i64 0, .slice none 0 0, .int .i64 0, .slice none 0 0]).cells (n * 4)))[i]?).getD undef, _, CellsAt.new w _ _, size_madeCells _ _, fun i hi => ?_⟩
  obtain ⟨v, hv⟩ : ∃ v, (madeCells (Value.agg #[.int .i64 0, .slice none 0 0, .int .i64 0, .slice none 0 0]).cells (n * 4))[i]? = some v := ⟨_, Array.getElem?_eq_getElem (by rw [size_madeCells]; exact hi)⟩
  simp only [hv, Option.getD_some]
theorem make_SlotS (n : Nat) (hn : n ≤ 1048576) (w : World) :
    (Instr.makeSlice 29 (.int .i64 (n : Int)) (.int .i64 (n : Int))).run Tryz.prog w = .ok (.slice (some ⟨w.heap.size, 0, none⟩) n n) (w.alloc (.cells (madeCells (Value.agg #[.int .i64 0, .slice none 0 0, .int .i64 0, .slice none 0 0]).cells (n * 4)) 91)) := by
  obtain ⟨i, hi, hzz⟩ := Option.map_eq_some_iff.1 info_slo
  simp only [Prod.mk.injEq] at hzz
  obtain ⟨hz, hs, hb⟩ := hzz
  have hr := run_make (P := Tryz.prog) w 29 91 i _ Tryz.underlying29 hi hz .i64 .i64 n n (by omega) (Int.le_refl _) (by rw [hb]; omega) (by omega)
  simp only [Int.toNat_natCast, hs] at hr
  exact hr
def SlShort (S : List SlN) : Prop := ∀ i, i < S.length → (S.getD i default).trusts.length ≤ 1048576 ∧ (S.getD i default).cells.length ≤ 1048576
set_option maxRecDepth 20000 in
set_option maxHeartbeats 8000000 in
theorem toSlotS_own (A : Option Addr) (S : List SlN) (cap : Nat) (w : World) (hn : S.length ≤ 1048576) (hA : Slots w w.heap.size A S) (hS : SlShort S) :
    Calls Tryz.prog 108 #[.slice A S.length cap] w fun e w' => ∃ g f, e = .returned (.slice (some ⟨g, 0, none⟩) S.length S.length) ∧ w.heap.size ≤ g ∧ w'.rowIs g 91 (S.length * 4) f ∧ SlRow (g + 1) w' f S.length S ∧ Below w.heap.size w w' := by
  have hmk := make_SlotS S.length hn
  have HA := Lib.hid hA
  have TS := Lib.hid (fun (s : SlN) (B : Option Addr) (tc : Nat) (C : Option Addr) (cc : Nat) (h1 : s.trusts.length ≤ 1048576 ∧ s.cells.length ≤ 1048576) (u : World) (hr : SlR u u.heap.size B tc C cc s) => toSlot_calls s.count s.mac B C s.trusts s.cells tc cc u h1.1 h1.2 hr.1 hr.2)
  have HS := Lib.hid hS
  clear hA hS
  go_enter Tryz.func108, Tryz.ntmps108
  go_wp2_with fail
  clear hmk
  go_loopw [4] (fun i wr => ∃ k : Nat, k ≤ S.length ∧ i = .int .i64 k ∧ Below w.heap.size w wr ∧ ∃ f, wr.rowIs w.heap.size 91 (S.length * 4) f ∧ SlRow (w.heap.size + 1) wr f k S) (fun i _ => S.length - (intOf i).toNat)
  case atStart =>
    obtain ⟨f, hf⟩ := made_SlotS w S.length
    exact ⟨0, Nat.zero_le _, rfl, (Below.refl _ _).alloc (Nat.le_refl _) _, f, hf, fun j hj => absurd hj (by omega)⟩
  case round =>
    obtain ⟨k, hk, rfl, hbel, f, hrow, hsl⟩ := hrel
    have HB := Lib.hid hbel
    have HR := Lib.hid hrow
    have HL := Lib.hid hsl
    clear hbel hrow hsl
    have hg : w.heap.size < wr.heap.size := HR.out.lt
    by_cases hlt : k < S.length
    · obtain ⟨b, off, rfl, hb, B, tc, C, cc, c0, c1, c2, c3, hr⟩ := (HA.out.below HB.out (Nat.le_refl _)) k hlt
      have hlt' : (k : Int) < S.length := by omega
      have hk0 : (0 : Int) ≤ k := by omega
      have CT := Lib.hid (TS.out _ B tc C cc (HS.out k hlt) wr (hr.more HB.out.size))
      have HN := Lib.hid (fun (u : World) (g h : Nat) (x : SlRow (w.heap.size + 1) u f k S) (y : SlB (w.heap.size + 1) u g h (S.getD k default)) => x.next rfl y (Nat.lt_succ_self w.heap.size))
      clear hr
      generalize S.getD k default = s at c0 c1 c2 c3 CT HN
      obtain ⟨sc, st, sm, sd⟩ := s
      simp only [] at c0 c1 c2 c3
      go_wp2_with fail
      refine (CT.out).mono ?_; rintro e w1 ⟨g, h, rfl, hx, b1⟩
      have BX := Lib.hid (HB.out.trans (b1.mono HB.out.size))
      have hrow := rowS_below HR.out b1 hg
      have HR1 := Lib.hid hrow
      have HN1 := Lib.hid (HN.out w1 g h (HL.out.below b1) (hx.down hg))
      have e0 := hrow.cell (i := k * 4) (by omega)
      have f0 := hrow.frozen (k * 4)
      have e1 := hrow.cell (i := k * 4 + 1) (by omega)
      have f1 := hrow.frozen (k * 4 + 1)
      have e2 := hrow.cell (i := k * 4 + 2) (by omega)
      have f2 := hrow.frozen (k * 4 + 2)
      have e3 := hrow.cell (i := k * 4 + 3) (by omega)
      have f3 := hrow.frozen (k * 4 + 3)
      clear b1 hrow c0 c1 c2 c3 hx
      go_wp2_with fail
      go_roundw
      case rel =>
        refine ⟨k + 1, by omega, by go_num, ((((BX.out.setCell (Nat.le_refl _) _).setCell (Nat.le_refl _) _).setCell (Nat.le_refl _) _).setCell (Nat.le_refl _) _), _, ?_, HN1.out⟩
        exact (((HR1.out.set (k * 4) _).set (k * 4 + 1) _).set (k * 4 + 2) _).set (k * 4 + 3) _
      case measure => simp [intOf]; omega
    · have hk' : k = S.length := by omega
      subst hk'
      go_wp2_with fail
      go_ret
      exact ⟨_, _, rfl, Nat.le_refl _, HR.out, HL.out, HB.out⟩
set_option maxRecDepth 20000 in
set_option maxHeartbeats 8000000 in
theorem eqSlotS_same (A C : Option Addr) (S : List SlN) (cap cap' : Nat) (w : World) (hn : S.length ≤ maxLen) (hS : SlShort S) (hA : Slots w w.heap.size A S) (hC : Slots w w.heap.size C S) :
    Calls Tryz.prog 112 #[.slice A S.length cap, .slice C S.length cap'] w fun e w' => e = .returned (.bool true) ∧ Below w.heap.size w w' := by
  have hm := hn
  unfold maxLen at hm
  have HA := Lib.hid hA
  have HC := Lib.hid hC
  have HS := Lib.hid hS
  have EQ := Lib.hid (fun (s : SlN) (B : Option Addr) (tc : Nat) (C : Option Addr) (cc : Nat) (B' : Option Addr) (tc' : Nat) (C' : Option Addr) (cc' : Nat) (h1 : s.trusts.length ≤ 1048576 ∧ s.cells.length ≤ 1048576) (hr : SlR w w.heap.size B tc C cc s) (hr' : SlR w w.heap.size B' tc' C' cc' s) (u : World) (hb : Below w.heap.size w u) =>
    eqSlot_same s.count s.mac B B' C C' s.trusts s.cells tc tc' cc cc' u (by unfold maxLen; omega) (by unfold maxLen; omega) ((hr.1.below hb (Nat.le_refl _)).more hb.size) ((hr'.1.below hb (Nat.le_refl _)).more hb.size) ((hr.2.below hb (Nat.le_refl _)).more hb.size) ((hr'.2.below hb (Nat.le_refl _)).more hb.size))
  clear hA hC hS hn
  go_enter Tryz.func112, Tryz.ntmps112
  go_wp2_with fail
  go_loopw [5] (fun i wr => ∃ k : Nat, k ≤ S.length ∧ i = .int .i64 k ∧ Below w.heap.size w wr) (fun i _ => S.length - (intOf i).toNat)
  case atStart => exact ⟨0, Nat.zero_le _, rfl, Below.refl _ _⟩
  case round =>
    obtain ⟨k, hk, rfl, hbel⟩ := hrel
    have HB := Lib.hid hbel
    clear hbel
    by_cases hlt : k < S.length
    · obtain ⟨b, off, rfl, hb, B, tc, D, cc, c0, c1, c2, c3, hr⟩ := HA.out k hlt
      obtain ⟨b', off', rfl, hb', B', tc', D', cc', d0, d1, d2, d3, hr'⟩ := HC.out k hlt
      have hlt' : (k : Int) < S.length := by omega
      have hk0 : (0 : Int) ≤ k := by omega
      have CQ := Lib.hid (EQ.out _ B tc D cc B' tc' D' cc' (HS.out k hlt) hr hr')
      clear hr hr'
      generalize S.getD k default = s at c0 c1 c2 c3 d0 d1 d2 d3 CQ
      obtain ⟨sc, st, sm, sd⟩ := s
      simp only [] at c0 c1 c2 c3 d0 d1 d2 d3 CQ
      have FA := Lib.hid (fun (u : World) (hu : Below w.heap.size w u) (o : Nat) => hu.cell (p := ⟨b, o, none⟩) hb)
      have FC := Lib.hid (fun (u : World) (hu : Below w.heap.size w u) (o : Nat) => hu.cell (p := ⟨b', o, none⟩) hb')
      have HD := Lib.hid HB.out.drew
      replace c0 := (FA.out _ HD.out _).trans c0
      replace c1 := (FA.out _ HD.out _).trans c1
      replace c2 := (FA.out _ HD.out _).trans c2
      replace c3 := (FA.out _ HD.out _).trans c3
      replace d0 := (FC.out _ HD.out _).trans d0
      replace d1 := (FC.out _ HD.out _).trans d1
      replace d2 := (FC.out _ HD.out _).trans d2
      replace d3 := (FC.out _ HD.out _).trans d3
      go_wp2_with fail
      go_region_with (go_at_call 182; refine (CQ.out _ HD.out).mono ?_; rintro e wx ⟨rfl, bx⟩)
      all_goals
        have BX := Lib.hid (HD.out.trans (bx.mono HD.out.size))
        clear bx c0 c1 c2 c3 d0 d1 d2 d3
        go_wp2_with fail
        go_roundw
        case rel => exact ⟨k + 1, by omega, by go_num, BX.out⟩
        case measure => simp [intOf]; omega
    · go_wp2_with fail
      go_ret
      exact ⟨rfl, HB.out⟩
set_option maxRecDepth 20000 in
set_option maxHeartbeats 8000000 in
theorem szSlotS_calls (A : Option Addr) (S : List SlN) (cap : Nat) (left : Int) (w : World) (h0 : 0 ≤ left) (h1 : left ≤ 1048576) (hn : S.length ≤ maxLen) (hA : Slots w w.heap.size A S) (hS : ∀ i, i < S.length → (S.getD i default).trusts.length ≤ maxLen ∧ (S.getD i default).cells.length ≤ maxLen) :
    Calls Tryz.prog 104 #[.slice A S.length cap, .int .i64 left] w fun e w' => ∃ r : Int, e = .returned (.int .i64 r) ∧ (r = -1 ∨ 0 ≤ r ∧ r ≤ 1048576 ∧ S.length ≤ 1048576 ∧ SlShort S) ∧ Below w.heap.size w w' := by
  unfold maxLen at hn
  by_cases h : (S.length : Int) ≤ left
  · have h2 : ¬ left - S.length < 0 := by omega
    have hS1 : S.length ≤ 1048576 := by omega
    have HA := Lib.hid hA
    have HS := Lib.hid hS
    clear hA hS
    have HSZ := Lib.hid (fun (s : SlN) (B : Option Addr) (tc : Nat) (C : Option Addr) (cc : Nat) (hs : s.trusts.length ≤ maxLen ∧ s.cells.length ≤ maxLen) (l : Int) (l0 : 0 ≤ l) (l1 : l ≤ 1048576) (u : World) => szSlot_calls s.count s.mac B C s.trusts.length tc s.cells.length cc l u l0 l1 hs.1 hs.2)
    have hb0 : (left - S.length : Int) ≤ 1048576 := by omega
    have hb1 : (0 : Int) ≤ left - S.length := by omega
    go_enter Tryz.func104, Tryz.ntmps104
    go_wp2_with fail
    generalize left - (S.length : Int) = l at h2 hb0 hb1 ⊢
    clear h h0 h1
    go_loopw [1, 5] (fun a i wr => ∃ (k : Nat) (r : Int), k ≤ S.length ∧ i = .int .i64 k ∧ a = .int .i64 r ∧ 0 ≤ r ∧ r ≤ 1048576 ∧ (∀ j, j < k → (S.getD j default).trusts.length ≤ 1048576 ∧ (S.getD j default).cells.length ≤ 1048576) ∧ Below w.heap.size w wr) (fun _ i _ => S.length - (intOf i).toNat)
    case atStart => exact ⟨0, _, Nat.zero_le _, rfl, rfl, by omega, by omega, fun j hj => absurd hj (by omega), Below.refl _ _⟩
    case round =>
      obtain ⟨k, r, hk, rfl, rfl, hr0, hr1, hall, hbel⟩ := hrel
      have HB := Lib.hid hbel
      have HL := Lib.hid hall
      clear hbel hall
      by_cases hlt : k < S.length
      · obtain ⟨b, off, rfl, hb, B, tc, C, cc, c0, c1, c2, c3, -⟩ := (HA.out.below HB.out (Nat.le_refl _)) k hlt
        have hlt' : (k : Int) < S.length := by omega
        have hk0 : (0 : Int) ≤ k := by omega
        have CT := Lib.hid (HSZ.out _ B tc C cc (HS.out k hlt) r hr0 hr1)
        have HN := Lib.hid (fun (x : (S.getD k default).trusts.length ≤ 1048576 ∧ (S.getD k default).cells.length ≤ 1048576) (j : Nat) (hj : j < k + 1) => show (S.getD j default).trusts.length ≤ 1048576 ∧ (S.getD j default).cells.length ≤ 1048576 from by
          rcases Nat.lt_or_ge j k with h1 | h1
          · exact HL.out j h1
          · obtain rfl : j = k := by omega
            exact x)
        clear hb
        generalize S.getD k default = s at c0 c1 c2 c3 CT HN
        obtain ⟨sc, st, sm, sd⟩ := s
        simp only [] at c0 c1 c2 c3 CT HN
        by_cases hx : (st.length : Int) + sd.length ≤ r
        · rw [if_pos hx] at CT
          have hx2 : ¬ r - st.length - sd.length < 0 := by omega
          go_wp2_with fail
          refine (CT.out _).mono ?_; rintro e w1 ⟨rfl, b1⟩
          have BX := Lib.hid (HB.out.trans (b1.mono HB.out.size))
          clear b1 c0 c1 c2 c3
          go_wp2_with fail
          go_roundw
          case rel => exact ⟨k + 1, _, by omega, by go_num, rfl, by omega, by omega, HN.out ⟨by omega, by omega⟩, BX.out⟩
          case measure => simp [intOf]; omega
        · rw [if_neg hx] at CT
          go_wp2_with fail
          refine (CT.out _).mono ?_; rintro e w1 ⟨rfl, b1⟩
          have BX := Lib.hid (HB.out.trans (b1.mono HB.out.size))
          clear b1 c0 c1 c2 c3
          go_wp2_with fail
          go_ret
          exact ⟨_, rfl, .inl rfl, BX.out⟩
      · have hk' : k = S.length := by omega
        subst hk'
        go_wp2_with fail
        go_ret
        exact ⟨_, rfl, .inr ⟨hr0, hr1, hS1, HL.out⟩, HB.out⟩
  · have h2 : left - S.length < 0 := by omega
    clear hA hS
    go_enter Tryz.func104, Tryz.ntmps104
    go_wp2
    go_ret
    exact ⟨_, rfl, .inl rfl, Below.refl _ _⟩
end Go.Proofs.YteoijmejhdocdaaGreatDoor.Mx

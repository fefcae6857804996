import Derived.Test.YthbkccagpggljaaGreatG32
import Derived.Test.YthbkccagpggljaaGreatG33
import Derived.Deep.RegionWith
namespace Go.Proofs.YthbkccagpggljaaGreat.Mx
open Go.ChangeShapes Go.WideShapes Go.ChangeAt Go.RowKit
set_option linter.unusedVariables false
theorem Row.keptO {w w' : World} {base t p : Nat} {v : Value} {zs : List Int} (h : Row w base t v zs) (hg : w.grownBy w' (some p)) (hp : v.ownBlock ≠ some p) : Row w' base t v zs :=
  ⟨h.1.kept hg (by cases e : v.ownBlock with | none => exact .inl rfl | some j => exact .inr (by rw [← e]; exact hp)), h.2⟩
def T7 (v w : World) (g : Nat) (A : Option Addr) (l : List Int) (cap p q : Nat) (key : Int) (Q : Option Addr) (zs : List Int) (c : Nat) (t : Tru) (u : World) : Prop :=
  St v g A l cap u ∧ w.grownBy u (some g) ∧ CellsAt u w.heap.size 26 #[.int .i64 0, .slice none 0 0] ∧ CellsAt u (w.heap.size + 1) 30 #[.int .i64 0, .int .i64 0, .int .i64 0, .int .i64 0, .int .i64 0, .int .i64 0, .int .i64 0, .bool false] ∧ CellsAt u p 26 #[.int .i64 key, .slice Q zs.length c] ∧ CellsAt u q 30 #[.int .i64 t.clock, .int .i64 t.epoch, .int .i64 t.cursor, .int .i64 t.read, .int .i64 t.written, .int .i64 t.nread, .int .i64 t.nwritten, .bool t.failed] ∧ Row u (w.heap.size + 1 + 1) 2 (.slice Q zs.length c) zs ∧ (Value.slice Q zs.length c).ownBlock ≠ some p ∧ (Value.slice Q zs.length c).ownBlock ≠ some q ∧ zs.length ≤ 5 ∧ zs.length ≤ c ∧ TruI t ∧ w.heap.size + 1 < p ∧ p < q ∧ g < w.heap.size
section
variable {v w u u' : World} {g p q : Nat} {A : Option Addr} {l : List Int} {cap : Nat} {key : Int} {Q : Option Addr} {zs : List Int} {c : Nat} {t : Tru}
theorem T7.grown (h : T7 v w g A l cap p q key Q zs c t u) (hs : St v g A l cap u') (hg : u.grownBy u' (some g)) : T7 v w g A l cap p q key Q zs c t u' := by
  obtain ⟨h1, h2, h3, h4, h5, h6, h7, h8, h9, h10, h11, h12, h13, h14, h15⟩ := h
  exact ⟨hs, gb_trans h2 hg, h3.grown hg (by intro e; injection e; omega), h4.grown hg (by intro e; injection e; omega), h5.grown hg (by intro e; injection e; omega), h6.grown hg (by intro e; injection e; omega), h7.grown hg (by omega), h8, h9, h10, h11, h12, h13, h14, h15⟩
theorem T7.tset (h : T7 v w g A l cap p q key Q zs c t u) {t' : Tru} (ht : TruI t') (hg : u.grownBy u' (some q)) (hc : CellsAt u' q 30 #[.int .i64 t'.clock, .int .i64 t'.epoch, .int .i64 t'.cursor, .int .i64 t'.read, .int .i64 t'.written, .int .i64 t'.nread, .int .i64 t'.nwritten, .bool t'.failed]) : T7 v w g A l cap p q key Q zs c t' u' := by
  obtain ⟨h1, h2, h3, h4, h5, h6, h7, h8, h9, h10, h11, h12, h13, h14, h15⟩ := h
  exact ⟨h1.off hg (by omega), gb_put h2 hg (by omega), h3.grown hg (by intro e; injection e; omega), h4.grown hg (by intro e; injection e; omega), h5.grown hg (by intro e; injection e; omega), hc, h7.keptO hg h9, h8, h9, h10, h11, ht, h13, h14, h15⟩
theorem T7.pset (h : T7 v w g A l cap p q key Q zs c t u) {key' : Int} {Q' : Option Addr} {zs' : List Int} {c' : Nat} (hg : u.grownBy u' (some p)) (hc : CellsAt u' p 26 #[.int .i64 key', .slice Q' zs'.length c']) (hr : Row u' (w.heap.size + 1 + 1) 2 (.slice Q' zs'.length c') zs') (hp : (Value.slice Q' zs'.length c').ownBlock ≠ some p) (hq : (Value.slice Q' zs'.length c').ownBlock ≠ some q) (h5' : zs'.length ≤ 5) (hc' : zs'.length ≤ c') : T7 v w g A l cap p q key' Q' zs' c' t u' := by
  obtain ⟨h1, h2, h3, h4, h5, h6, h7, h8, h9, h10, h11, h12, h13, h14, h15⟩ := h
  exact ⟨h1.off hg (by omega), gb_put h2 hg (by omega), h3.grown hg (by intro e; injection e; omega), h4.grown hg (by intro e; injection e; omega), hc, h6.grown hg (by intro e; injection e; omega), hr, hp, hq, h5', hc', h12, h13, h14, h15⟩
theorem T7.t0 (h : T7 v w g A l cap p q key Q zs c t u) {x : Int} (hx : I64 x) : T7 v w g A l cap p q key Q zs c { t with clock := x } (u.setCell ⟨q, 0, none⟩ (.int .i64 x)) := by
  obtain ⟨a0, a1, a2, a3, a4, a5, a6⟩ := h.2.2.2.2.2.2.2.2.2.2.2.1
  exact h.tset ⟨hx, a1, a2, a3, a4, a5, a6⟩ (gb_set (gb_refl u (some q)) 0 (.int .i64 x)) (h.2.2.2.2.2.1.set_ 0 (.int .i64 x))
theorem T7.t1 (h : T7 v w g A l cap p q key Q zs c t u) {x : Int} (hx : I64 x) : T7 v w g A l cap p q key Q zs c { t with epoch := x } (u.setCell ⟨q, 1, none⟩ (.int .i64 x)) := by
  obtain ⟨a0, a1, a2, a3, a4, a5, a6⟩ := h.2.2.2.2.2.2.2.2.2.2.2.1
  exact h.tset ⟨a0, hx, a2, a3, a4, a5, a6⟩ (gb_set (gb_refl u (some q)) 1 (.int .i64 x)) (h.2.2.2.2.2.1.set_ 1 (.int .i64 x))
theorem T7.t2 (h : T7 v w g A l cap p q key Q zs c t u) {x : Int} (hx : I64 x) : T7 v w g A l cap p q key Q zs c { t with cursor := x } (u.setCell ⟨q, 2, none⟩ (.int .i64 x)) := by
  obtain ⟨a0, a1, a2, a3, a4, a5, a6⟩ := h.2.2.2.2.2.2.2.2.2.2.2.1
  exact h.tset ⟨a0, a1, hx, a3, a4, a5, a6⟩ (gb_set (gb_refl u (some q)) 2 (.int .i64 x)) (h.2.2.2.2.2.1.set_ 2 (.int .i64 x))
theorem T7.t3 (h : T7 v w g A l cap p q key Q zs c t u) {x : Int} (hx : I64 x) : T7 v w g A l cap p q key Q zs c { t with read := x } (u.setCell ⟨q, 3, none⟩ (.int .i64 x)) := by
  obtain ⟨a0, a1, a2, a3, a4, a5, a6⟩ := h.2.2.2.2.2.2.2.2.2.2.2.1
  exact h.tset ⟨a0, a1, a2, hx, a4, a5, a6⟩ (gb_set (gb_refl u (some q)) 3 (.int .i64 x)) (h.2.2.2.2.2.1.set_ 3 (.int .i64 x))
theorem T7.t4 (h : T7 v w g A l cap p q key Q zs c t u) {x : Int} (hx : I64 x) : T7 v w g A l cap p q key Q zs c { t with written := x } (u.setCell ⟨q, 4, none⟩ (.int .i64 x)) := by
  obtain ⟨a0, a1, a2, a3, a4, a5, a6⟩ := h.2.2.2.2.2.2.2.2.2.2.2.1
  exact h.tset ⟨a0, a1, a2, a3, hx, a5, a6⟩ (gb_set (gb_refl u (some q)) 4 (.int .i64 x)) (h.2.2.2.2.2.1.set_ 4 (.int .i64 x))
theorem T7.t5 (h : T7 v w g A l cap p q key Q zs c t u) {x : Int} (hx : I64 x) : T7 v w g A l cap p q key Q zs c { t with nread := x } (u.setCell ⟨q, 5, none⟩ (.int .i64 x)) := by
  obtain ⟨a0, a1, a2, a3, a4, a5, a6⟩ := h.2.2.2.2.2.2.2.2.2.2.2.1
  exact h.tset ⟨a0, a1, a2, a3, a4, hx, a6⟩ (gb_set (gb_refl u (some q)) 5 (.int .i64 x)) (h.2.2.2.2.2.1.set_ 5 (.int .i64 x))
theorem T7.t6 (h : T7 v w g A l cap p q key Q zs c t u) {x : Int} (hx : I64 x) : T7 v w g A l cap p q key Q zs c { t with nwritten := x } (u.setCell ⟨q, 6, none⟩ (.int .i64 x)) := by
  obtain ⟨a0, a1, a2, a3, a4, a5, a6⟩ := h.2.2.2.2.2.2.2.2.2.2.2.1
  exact h.tset ⟨a0, a1, a2, a3, a4, a5, hx⟩ (gb_set (gb_refl u (some q)) 6 (.int .i64 x)) (h.2.2.2.2.2.1.set_ 6 (.int .i64 x))
theorem T7.rd (h : T7 v w g A l cap p q key Q zs c t u) : (∀ i, u.cell? ⟨w.heap.size, i, none⟩ = #[.int .i64 0, .slice none 0 0][i]?) ∧ (∀ i, u.cell? ⟨w.heap.size + 1, i, none⟩ = #[.int .i64 0, .int .i64 0, .int .i64 0, .int .i64 0, .int .i64 0, .int .i64 0, .int .i64 0, .bool false][i]?) ∧ (∀ i, u.cell? ⟨p, i, none⟩ = #[.int .i64 key, .slice Q zs.length c][i]?) ∧ (∀ i, u.cell? ⟨q, i, none⟩ = #[.int .i64 t.clock, .int .i64 t.epoch, .int .i64 t.cursor, .int .i64 t.read, .int .i64 t.written, .int .i64 t.nread, .int .i64 t.nwritten, .bool t.failed][i]?) ∧ (∀ i, u.frozen? ⟨w.heap.size, i, none⟩ = false) ∧ (∀ i, u.frozen? ⟨w.heap.size + 1, i, none⟩ = false) ∧ (∀ i, u.frozen? ⟨p, i, none⟩ = false) ∧ (∀ i, u.frozen? ⟨q, i, none⟩ = false) :=
  ⟨h.2.2.1.cell, h.2.2.2.1.cell, h.2.2.2.2.1.cell, h.2.2.2.2.2.1.cell, h.2.2.1.frozen, h.2.2.2.1.frozen, h.2.2.2.2.1.frozen, h.2.2.2.2.2.1.frozen⟩
theorem T7.end_ (h : T7 v w g A l cap p q key Q zs c t u) {x : Int} (hx : I64 x) : ∃ w4, ((((((((((u.setCell ⟨w.heap.size, 0, none⟩ (.int .i64 key)).setCell ⟨w.heap.size, 1, none⟩ (.slice Q zs.length c)).setCell ⟨w.heap.size + 1, 0, none⟩ (.int .i64 t.clock)).setCell ⟨w.heap.size + 1, 1, none⟩ (.int .i64 t.epoch)).setCell ⟨w.heap.size + 1, 2, none⟩ (.int .i64 t.cursor)).setCell ⟨w.heap.size + 1, 3, none⟩ (.int .i64 t.read)).setCell ⟨w.heap.size + 1, 4, none⟩ (.int .i64 t.written)).setCell ⟨w.heap.size + 1, 5, none⟩ (.int .i64 t.nread)).setCell ⟨w.heap.size + 1, 6, none⟩ (.int .i64 t.nwritten)).setCell ⟨w.heap.size + 1, 7, none⟩ (.bool t.failed)) = w4 ∧
      (w4.cell? ⟨w.heap.size, 0, none⟩ = some (.int .i64 key) ∧ w4.cell? ⟨w.heap.size, 1, none⟩ = some (.slice Q zs.length c)) ∧
      (w4.cell? ⟨w.heap.size + 1, 0, none⟩ = some (.int .i64 t.clock) ∧ w4.cell? ⟨w.heap.size + 1, 1, none⟩ = some (.int .i64 t.epoch) ∧ w4.cell? ⟨w.heap.size + 1, 2, none⟩ = some (.int .i64 t.cursor) ∧ w4.cell? ⟨w.heap.size + 1, 3, none⟩ = some (.int .i64 t.read) ∧ w4.cell? ⟨w.heap.size + 1, 4, none⟩ = some (.int .i64 t.written) ∧ w4.cell? ⟨w.heap.size + 1, 5, none⟩ = some (.int .i64 t.nread) ∧ w4.cell? ⟨w.heap.size + 1, 6, none⟩ = some (.int .i64 t.nwritten) ∧ w4.cell? ⟨w.heap.size + 1, 7, none⟩ = some (.bool t.failed)) ∧
      TruS v w g A l cap (.returned (.tuple #[.agg #[.int .i64 key, .slice Q zs.length c], .int .i64 x, .agg #[.int .i64 t.clock, .int .i64 t.epoch, .int .i64 t.cursor, .int .i64 t.read, .int .i64 t.written, .int .i64 t.nread, .int .i64 t.nwritten, .bool t.failed]])) w4 := by
  obtain ⟨h1, h2, h3, h4, h5, h6, h7, h8, h9, h10, h11, h12, h13, h14, h15⟩ := h
  exact pt_end h15 (Nat.le_refl _) (by omega) h3 h4 h1 h2 h7 hx h10 h11 h12
end
set_option maxRecDepth 20000 in
set_option maxHeartbeats 16000000 in
theorem draw7Any_calls (v : World) (g : Nat) (A : Option Addr) (l : List Int) (cap : Nat) (w : World) (hn : l.length ≤ 4096) (h : St v g A l cap w) :
    Calls Tryz.prog 26 #[.pointer (some ⟨g, 0, none⟩)] w (TruS v w g A l cap) := by
  have HN := Lib.hid (show l.length ≤ maxLen by unfold maxLen; omega)
  have HM := Lib.hid hn
  have HL := h.2.lt
  have S0 := Lib.hid ((h.alloc (.cells #[.int .i64 0, .slice none 0 0] 26)).alloc (.cells #[.int .i64 0, .int .i64 0, .int .i64 0, .int .i64 0, .int .i64 0, .int .i64 0, .int .i64 0, .bool false] 30))
  have K0 := Lib.hid (show CellsAt ((w.alloc (.cells #[.int .i64 0, .slice none 0 0] 26)).alloc (.cells #[.int .i64 0, .int .i64 0, .int .i64 0, .int .i64 0, .int .i64 0, .int .i64 0, .int .i64 0, .bool false] 30)) w.heap.size 26 #[.int .i64 0, .slice none 0 0] from CellsAt.grown (CellsAt.new w _ _) (World.grownBy_alloc _ _ none) (by simp))
  have Q0 := Lib.hid (show CellsAt ((w.alloc (.cells #[.int .i64 0, .slice none 0 0] 26)).alloc (.cells #[.int .i64 0, .int .i64 0, .int .i64 0, .int .i64 0, .int .i64 0, .int .i64 0, .int .i64 0, .bool false] 30)) (w.heap.size + 1) 30 #[.int .i64 0, .int .i64 0, .int .i64 0, .int .i64 0, .int .i64 0, .int .i64 0, .int .i64 0, .bool false] from by
    have q := CellsAt.new (w.alloc (.cells #[.int .i64 0, .slice none 0 0] 26)) 30 #[.int .i64 0, .int .i64 0, .int .i64 0, .int .i64 0, .int .i64 0, .int .i64 0, .int .i64 0, .bool false]
    rwa [show (w.alloc (.cells #[.int .i64 0, .slice none 0 0] 26)).heap.size = w.heap.size + 1 by simp] at q)
  have G0 := Lib.hid (gb_alloc (gb_alloc (gb_refl w (some g)) (.cells #[.int .i64 0, .slice none 0 0] 26)) (.cells #[.int .i64 0, .int .i64 0, .int .i64 0, .int .i64 0, .int .i64 0, .int .i64 0, .int .i64 0, .bool false] 30))
  clear hn h
  go_enter Tryz.func26, Tryz.ntmps26
  go_wp2_with fail
  refine (draw7_calls v g A l cap _ HM.out S0.out).mono ?_; rintro e w1 ⟨key, Q, zs, c, x, t, rfl, hx, h5, hc, ht, hrow, s1, g1⟩
  have hz1 : w.heap.size + 1 < w1.heap.size := by have := g1.size; simp at this; omega
  have hrow1 : Row w1 (w.heap.size + 1 + 1) 2 (.slice Q zs.length c) zs := by simpa using hrow
  have hob : ∀ j, (Value.slice Q zs.length c).ownBlock = some j → j < w1.heap.size := fun j e => (hrow1.1.lt j e).2
  have HX := Lib.hid hx
  have H1 := Lib.hid (show T7 v w g A l cap w1.heap.size (w1.heap.size + 1) key Q zs c t ((w1.alloc (.cells #[.int .i64 key, .slice Q zs.length c] 26)).alloc (.cells #[.int .i64 t.clock, .int .i64 t.epoch, .int .i64 t.cursor, .int .i64 t.read, .int .i64 t.written, .int .i64 t.nread, .int .i64 t.nwritten, .bool t.failed] 30)) from
    ⟨(s1.alloc _).alloc _, gb_alloc (gb_alloc (gb_trans G0.out g1) _) _, CellsAt.grown (CellsAt.grown (K0.out.grown g1 (by intro e; injection e; omega)) (World.grownBy_alloc w1 _ none) (by simp)) (World.grownBy_alloc _ _ none) (by simp),
     CellsAt.grown (CellsAt.grown (Q0.out.grown g1 (by intro e; injection e; omega)) (World.grownBy_alloc w1 _ none) (by simp)) (World.grownBy_alloc _ _ none) (by simp),
     CellsAt.grown (CellsAt.new w1 _ _) (World.grownBy_alloc _ _ none) (by simp), (by
      have q := CellsAt.new (w1.alloc (.cells #[.int .i64 key, .slice Q zs.length c] 26)) 30 #[.int .i64 t.clock, .int .i64 t.epoch, .int .i64 t.cursor, .int .i64 t.read, .int .i64 t.written, .int .i64 t.nread, .int .i64 t.nwritten, .bool t.failed]
      rwa [show (w1.alloc (.cells #[.int .i64 key, .slice Q zs.length c] 26)).heap.size = w1.heap.size + 1 by simp] at q), (hrow1.alloc _).alloc _, fun e => by have := hob _ e; omega, fun e => by have := hob _ e; omega, h5, hc, ht, hz1, by omega, HL⟩)
  clear hx h5 hc ht hrow hrow1 s1 g1 hob S0 K0 Q0 G0
  go_upto_region 2 with fail
  generalize World.alloc (World.alloc w1 _) _ = w2 at H1 ⊢
  go_wp2_with fail
  refine (once_st v g A l cap 5 _ HN.out H1.out.1 (by omega)).mono ?_; rintro e w3 ⟨b, rfl, s3, g3⟩
  have H3 := Lib.hid (H1.out.grown s3 g3)
  clear s3 g3 H1
  rcases b with _ | _
  · go_upto_region 22 with fail
    obtain ⟨r1, r2, r3, r4, f1, f2, f3, f4⟩ := H3.out.rd
    go_region
    go_wp2_with fail
    obtain ⟨w9, e9, ⟨d0, d1⟩, ⟨t0, t1, t2, t3, t4, t5, t6, t7⟩, h9⟩ := H3.out.end_ HX.out
    rw [e9]
    have H9 := Lib.hid h9.drew
    clear e9 h9
    exact bodyPost_ret (v := .tuple #[.agg #[.int .i64 key, .slice Q zs.length c], .int .i64 x, .agg #[.int .i64 t.clock, .int .i64 t.epoch, .int .i64 t.cursor, .int .i64 t.read, .int .i64 t.written, .int .i64 t.nread, .int .i64 t.nwritten, .bool t.failed]]) (by simp [results, Tryz.results26, go_sem, d0, d1, t0, t1, t2, t3, t4, t5, t6, t7]) rfl H9.out
  · go_wp2_with fail
    refine (below_st v g A l cap 9 w3 HN.out H3.out.1 (by omega)).mono ?_; rintro e w4 ⟨n, rfl, ⟨n0, n1⟩, s4, g4⟩
    have H4 := Lib.hid (H3.out.grown s4 g4)
    clear s4 g4 H3
    have hn9 : n = 0 ∨ n = 1 ∨ n = 2 ∨ n = 3 ∨ n = 4 ∨ n = 5 ∨ n = 6 ∨ n = 7 ∨ n = 8 := by omega
    clear n0 n1
    rcases hn9 with rfl | rfl | rfl | rfl | rfl | rfl | rfl | rfl | rfl
    · go_wp2_with fail
      refine (num_st v g A l cap 100000 w4 HN.out H4.out.1 (by omega) (by omega)).mono ?_; rintro e w5 ⟨y, rfl, iy, s5, g5⟩
      have H5 := Lib.hid (H4.out.grown s5 g5)
      have IY := Lib.hid (show I64 y from ⟨by omega, by omega⟩)
      clear s5 g5 H4 iy
      obtain ⟨r1, r2, r3, r4, f1, f2, f3, f4⟩ := H5.out.rd
      have H6 := Lib.hid (H5.out.t0 IY.out)
      go_upto_region 22 with fail
      clear r1 r2 r3 r4 f1 f2 f3 f4 H5
      generalize World.setCell _ _ _ = w6 at H6 ⊢
      obtain ⟨t', H7⟩ : ∃ t', Hid (T7 v w g A l cap w1.heap.size (w1.heap.size + 1) key Q zs c t' w6) := ⟨_, H6⟩
      clear H6
      obtain ⟨r1, r2, r3, r4, f1, f2, f3, f4⟩ := H7.out.rd
      go_region
      go_wp2_with fail
      obtain ⟨w9, e9, ⟨d0, d1⟩, ⟨t0, t1, t2, t3, t4, t5, t6, t7⟩, h9⟩ := H7.out.end_ HX.out
      rw [e9]
      have H9 := Lib.hid h9.drew
      clear e9 h9
      exact bodyPost_ret (v := .tuple #[.agg #[.int .i64 key, .slice Q zs.length c], .int .i64 x, .agg #[.int .i64 t'.clock, .int .i64 t'.epoch, .int .i64 t'.cursor, .int .i64 t'.read, .int .i64 t'.written, .int .i64 t'.nread, .int .i64 t'.nwritten, .bool t'.failed]]) (by simp [results, Tryz.results26, go_sem, d0, d1, t0, t1, t2, t3, t4, t5, t6, t7]) rfl H9.out
    · go_wp2_with fail
      refine (num_st v g A l cap 1000 w4 HN.out H4.out.1 (by omega) (by omega)).mono ?_; rintro e w5 ⟨y, rfl, iy, s5, g5⟩
      have H5 := Lib.hid (H4.out.grown s5 g5)
      have IY := Lib.hid (show I64 y from ⟨by omega, by omega⟩)
      clear s5 g5 H4 iy
      obtain ⟨r1, r2, r3, r4, f1, f2, f3, f4⟩ := H5.out.rd
      have H6 := Lib.hid (H5.out.t1 IY.out)
      go_upto_region 22 with fail
      clear r1 r2 r3 r4 f1 f2 f3 f4 H5
      generalize World.setCell _ _ _ = w6 at H6 ⊢
      obtain ⟨t', H7⟩ : ∃ t', Hid (T7 v w g A l cap w1.heap.size (w1.heap.size + 1) key Q zs c t' w6) := ⟨_, H6⟩
      clear H6
      obtain ⟨r1, r2, r3, r4, f1, f2, f3, f4⟩ := H7.out.rd
      go_region
      go_wp2_with fail
      obtain ⟨w9, e9, ⟨d0, d1⟩, ⟨t0, t1, t2, t3, t4, t5, t6, t7⟩, h9⟩ := H7.out.end_ HX.out
      rw [e9]
      have H9 := Lib.hid h9.drew
      clear e9 h9
      exact bodyPost_ret (v := .tuple #[.agg #[.int .i64 key, .slice Q zs.length c], .int .i64 x, .agg #[.int .i64 t'.clock, .int .i64 t'.epoch, .int .i64 t'.cursor, .int .i64 t'.read, .int .i64 t'.written, .int .i64 t'.nread, .int .i64 t'.nwritten, .bool t'.failed]]) (by simp [results, Tryz.results26, go_sem, d0, d1, t0, t1, t2, t3, t4, t5, t6, t7]) rfl H9.out
    · go_wp2_with fail
      refine (from_st v g A l cap (-1) 4 w4 HN.out H4.out.1 (by omega) (by omega) (by omega)).mono ?_; rintro e w5 ⟨y, rfl, iy, s5, g5⟩
      have H5 := Lib.hid (H4.out.grown s5 g5)
      have IY := Lib.hid (show I64 y from ⟨by omega, by omega⟩)
      clear s5 g5 H4 iy
      obtain ⟨r1, r2, r3, r4, f1, f2, f3, f4⟩ := H5.out.rd
      have H6 := Lib.hid (H5.out.t2 IY.out)
      go_upto_region 22 with fail
      clear r1 r2 r3 r4 f1 f2 f3 f4 H5
      generalize World.setCell _ _ _ = w6 at H6 ⊢
      obtain ⟨t', H7⟩ : ∃ t', Hid (T7 v w g A l cap w1.heap.size (w1.heap.size + 1) key Q zs c t' w6) := ⟨_, H6⟩
      clear H6
      obtain ⟨r1, r2, r3, r4, f1, f2, f3, f4⟩ := H7.out.rd
      go_region
      go_wp2_with fail
      obtain ⟨w9, e9, ⟨d0, d1⟩, ⟨t0, t1, t2, t3, t4, t5, t6, t7⟩, h9⟩ := H7.out.end_ HX.out
      rw [e9]
      have H9 := Lib.hid h9.drew
      clear e9 h9
      exact bodyPost_ret (v := .tuple #[.agg #[.int .i64 key, .slice Q zs.length c], .int .i64 x, .agg #[.int .i64 t'.clock, .int .i64 t'.epoch, .int .i64 t'.cursor, .int .i64 t'.read, .int .i64 t'.written, .int .i64 t'.nread, .int .i64 t'.nwritten, .bool t'.failed]]) (by simp [results, Tryz.results26, go_sem, d0, d1, t0, t1, t2, t3, t4, t5, t6, t7]) rfl H9.out
    · go_wp2_with fail
      refine (num_st v g A l cap 4611686018427387903 w4 HN.out H4.out.1 (by omega) (by omega)).mono ?_; rintro e w5 ⟨y, rfl, iy, s5, g5⟩
      have H5 := Lib.hid (H4.out.grown s5 g5)
      have IY := Lib.hid (show I64 y from ⟨by omega, by omega⟩)
      clear s5 g5 H4 iy
      obtain ⟨r1, r2, r3, r4, f1, f2, f3, f4⟩ := H5.out.rd
      have H6 := Lib.hid (H5.out.t3 IY.out)
      go_upto_region 22 with fail
      clear r1 r2 r3 r4 f1 f2 f3 f4 H5
      generalize World.setCell _ _ _ = w6 at H6 ⊢
      obtain ⟨t', H7⟩ : ∃ t', Hid (T7 v w g A l cap w1.heap.size (w1.heap.size + 1) key Q zs c t' w6) := ⟨_, H6⟩
      clear H6
      obtain ⟨r1, r2, r3, r4, f1, f2, f3, f4⟩ := H7.out.rd
      go_region
      go_wp2_with fail
      obtain ⟨w9, e9, ⟨d0, d1⟩, ⟨t0, t1, t2, t3, t4, t5, t6, t7⟩, h9⟩ := H7.out.end_ HX.out
      rw [e9]
      have H9 := Lib.hid h9.drew
      clear e9 h9
      exact bodyPost_ret (v := .tuple #[.agg #[.int .i64 key, .slice Q zs.length c], .int .i64 x, .agg #[.int .i64 t'.clock, .int .i64 t'.epoch, .int .i64 t'.cursor, .int .i64 t'.read, .int .i64 t'.written, .int .i64 t'.nread, .int .i64 t'.nwritten, .bool t'.failed]]) (by simp [results, Tryz.results26, go_sem, d0, d1, t0, t1, t2, t3, t4, t5, t6, t7]) rfl H9.out
    · go_wp2_with fail
      refine (num_st v g A l cap 4611686018427387903 w4 HN.out H4.out.1 (by omega) (by omega)).mono ?_; rintro e w5 ⟨y, rfl, iy, s5, g5⟩
      have H5 := Lib.hid (H4.out.grown s5 g5)
      have IY := Lib.hid (show I64 y from ⟨by omega, by omega⟩)
      clear s5 g5 H4 iy
      obtain ⟨r1, r2, r3, r4, f1, f2, f3, f4⟩ := H5.out.rd
      have H6 := Lib.hid (H5.out.t4 IY.out)
      go_upto_region 22 with fail
      clear r1 r2 r3 r4 f1 f2 f3 f4 H5
      generalize World.setCell _ _ _ = w6 at H6 ⊢
      obtain ⟨t', H7⟩ : ∃ t', Hid (T7 v w g A l cap w1.heap.size (w1.heap.size + 1) key Q zs c t' w6) := ⟨_, H6⟩
      clear H6
      obtain ⟨r1, r2, r3, r4, f1, f2, f3, f4⟩ := H7.out.rd
      go_region
      go_wp2_with fail
      obtain ⟨w9, e9, ⟨d0, d1⟩, ⟨t0, t1, t2, t3, t4, t5, t6, t7⟩, h9⟩ := H7.out.end_ HX.out
      rw [e9]
      have H9 := Lib.hid h9.drew
      clear e9 h9
      exact bodyPost_ret (v := .tuple #[.agg #[.int .i64 key, .slice Q zs.length c], .int .i64 x, .agg #[.int .i64 t'.clock, .int .i64 t'.epoch, .int .i64 t'.cursor, .int .i64 t'.read, .int .i64 t'.written, .int .i64 t'.nread, .int .i64 t'.nwritten, .bool t'.failed]]) (by simp [results, Tryz.results26, go_sem, d0, d1, t0, t1, t2, t3, t4, t5, t6, t7]) rfl H9.out
    · go_wp2_with fail
      refine (num_st v g A l cap 4611686018427387903 w4 HN.out H4.out.1 (by omega) (by omega)).mono ?_; rintro e w5 ⟨y, rfl, iy, s5, g5⟩
      have H5 := Lib.hid (H4.out.grown s5 g5)
      have IY := Lib.hid (show I64 y from ⟨by omega, by omega⟩)
      clear s5 g5 H4 iy
      obtain ⟨r1, r2, r3, r4, f1, f2, f3, f4⟩ := H5.out.rd
      have H6 := Lib.hid (H5.out.t5 IY.out)
      go_upto_region 22 with fail
      clear r1 r2 r3 r4 f1 f2 f3 f4 H5
      generalize World.setCell _ _ _ = w6 at H6 ⊢
      obtain ⟨t', H7⟩ : ∃ t', Hid (T7 v w g A l cap w1.heap.size (w1.heap.size + 1) key Q zs c t' w6) := ⟨_, H6⟩
      clear H6
      obtain ⟨r1, r2, r3, r4, f1, f2, f3, f4⟩ := H7.out.rd
      go_region
      go_wp2_with fail
      obtain ⟨w9, e9, ⟨d0, d1⟩, ⟨t0, t1, t2, t3, t4, t5, t6, t7⟩, h9⟩ := H7.out.end_ HX.out
      rw [e9]
      have H9 := Lib.hid h9.drew
      clear e9 h9
      exact bodyPost_ret (v := .tuple #[.agg #[.int .i64 key, .slice Q zs.length c], .int .i64 x, .agg #[.int .i64 t'.clock, .int .i64 t'.epoch, .int .i64 t'.cursor, .int .i64 t'.read, .int .i64 t'.written, .int .i64 t'.nread, .int .i64 t'.nwritten, .bool t'.failed]]) (by simp [results, Tryz.results26, go_sem, d0, d1, t0, t1, t2, t3, t4, t5, t6, t7]) rfl H9.out
    · go_wp2_with fail
      refine (num_st v g A l cap 4611686018427387903 w4 HN.out H4.out.1 (by omega) (by omega)).mono ?_; rintro e w5 ⟨y, rfl, iy, s5, g5⟩
      have H5 := Lib.hid (H4.out.grown s5 g5)
      have IY := Lib.hid (show I64 y from ⟨by omega, by omega⟩)
      clear s5 g5 H4 iy
      obtain ⟨r1, r2, r3, r4, f1, f2, f3, f4⟩ := H5.out.rd
      have H6 := Lib.hid (H5.out.t6 IY.out)
      go_upto_region 22 with fail
      clear r1 r2 r3 r4 f1 f2 f3 f4 H5
      generalize World.setCell _ _ _ = w6 at H6 ⊢
      obtain ⟨t', H7⟩ : ∃ t', Hid (T7 v w g A l cap w1.heap.size (w1.heap.size + 1) key Q zs c t' w6) := ⟨_, H6⟩
      clear H6
      obtain ⟨r1, r2, r3, r4, f1, f2, f3, f4⟩ := H7.out.rd
      go_region
      go_wp2_with fail
      obtain ⟨w9, e9, ⟨d0, d1⟩, ⟨t0, t1, t2, t3, t4, t5, t6, t7⟩, h9⟩ := H7.out.end_ HX.out
      rw [e9]
      have H9 := Lib.hid h9.drew
      clear e9 h9
      exact bodyPost_ret (v := .tuple #[.agg #[.int .i64 key, .slice Q zs.length c], .int .i64 x, .agg #[.int .i64 t'.clock, .int .i64 t'.epoch, .int .i64 t'.cursor, .int .i64 t'.read, .int .i64 t'.written, .int .i64 t'.nread, .int .i64 t'.nwritten, .bool t'.failed]]) (by simp [results, Tryz.results26, go_sem, d0, d1, t0, t1, t2, t3, t4, t5, t6, t7]) rfl H9.out
    · go_wp2_with fail
      refine (draw5Any_calls v g A l cap w4 HN.out H4.out.1).mono ?_; rintro e w5 ⟨key', u', zs', rfl, h5', hr', s5, g5⟩
      obtain ⟨Q', c', rfl, -, hc'⟩ := hr'.reads_cap
      have lz4 : w1.heap.size + 1 < w4.heap.size := H4.out.2.2.2.2.2.1.lt
      have H5 := Lib.hid (H4.out.grown s5 g5)
      have hob : ∀ j, (Value.slice Q' zs'.length c').ownBlock = some j → w4.heap.size ≤ j := fun j e => (hr'.1.lt j e).1
      clear s5 g5 H4
      obtain ⟨r1, r2, r3, r4, f1, f2, f3, f4⟩ := H5.out.rd
      have hpp := plan_put (x0 := .int .i64 key') (x1 := .slice Q' zs'.length c') H5.out.2.2.2.2.1
      have H6 := Lib.hid (H5.out.pset hpp.2 hpp.1 ((hr'.grown hpp.2 (by omega)).mono (by omega)) (fun e => by have := hob _ e; omega) (fun e => by have := hob _ e; omega) h5' hc')
      clear hpp
      go_upto_region 22 with fail
      clear r1 r2 r3 r4 f1 f2 f3 f4 H5 hr' hob
      generalize World.setCell _ _ _ = w6 at H6 ⊢
      obtain ⟨r1, r2, r3, r4, f1, f2, f3, f4⟩ := H6.out.rd
      go_region
      go_wp2_with fail
      obtain ⟨w9, e9, ⟨d0, d1⟩, ⟨t0, t1, t2, t3, t4, t5, t6, t7⟩, h9⟩ := H6.out.end_ HX.out
      rw [e9]
      have H9 := Lib.hid h9.drew
      clear e9 h9
      exact bodyPost_ret (v := .tuple #[.agg #[.int .i64 key', .slice Q' zs'.length c'], .int .i64 x, .agg #[.int .i64 t.clock, .int .i64 t.epoch, .int .i64 t.cursor, .int .i64 t.read, .int .i64 t.written, .int .i64 t.nread, .int .i64 t.nwritten, .bool t.failed]]) (by simp [results, Tryz.results26, go_sem, d0, d1, t0, t1, t2, t3, t4, t5, t6, t7]) rfl H9.out
    · go_wp2_with fail
      refine (from_st v g A l cap (-1) 4 w4 HN.out H4.out.1 (by omega) (by omega) (by omega)).mono ?_; rintro e w5 ⟨y, rfl, iy, s5, g5⟩
      have H5 := Lib.hid (H4.out.grown s5 g5)
      have IY := Lib.hid (show I64 y from ⟨by omega, by omega⟩)
      clear s5 g5 H4 iy
      go_upto_region 22 with fail
      obtain ⟨r1, r2, r3, r4, f1, f2, f3, f4⟩ := H5.out.rd
      go_region
      go_wp2_with fail
      obtain ⟨w9, e9, ⟨d0, d1⟩, ⟨t0, t1, t2, t3, t4, t5, t6, t7⟩, h9⟩ := H5.out.end_ IY.out
      rw [e9]
      have H9 := Lib.hid h9.drew
      clear e9 h9
      exact bodyPost_ret (v := .tuple #[.agg #[.int .i64 key, .slice Q zs.length c], .int .i64 y, .agg #[.int .i64 t.clock, .int .i64 t.epoch, .int .i64 t.cursor, .int .i64 t.read, .int .i64 t.written, .int .i64 t.nread, .int .i64 t.nwritten, .bool t.failed]]) (by simp [results, Tryz.results26, go_sem, d0, d1, t0, t1, t2, t3, t4, t5, t6, t7]) rfl H9.out
end Go.Proofs.YthbkccagpggljaaGreat.Mx
namespace Go.Proofs.YthbkccagpggljaaGreat.Mx
open Go.ChangeShapes Go.WideShapes Go.ChangeAt Go.RowKit
set_option linter.unusedVariables false
def PlanNumW (w : World) (e : Ending) (w' : World) : Prop :=
  ∃ (key : Int) (A : Option Addr) (zs : List Int) (c : Nat) (x : Int), e = .returned (.tuple #[.agg #[.int .i64 key, .slice A zs.length c], .int .i64 x]) ∧ I64 x ∧ zs.length ≤ 5 ∧ zs.length ≤ c ∧ Ints w' .i64 w'.heap.size A zs ∧ Below w.heap.size w w'
end Go.Proofs.YthbkccagpggljaaGreat.Mx

import Derived.Test.YthbkccagpggljaaGreatG28
import Derived.Test.YthbkccagpggljaaGreatG29
import Derived.Test.YthbkccagpggljaaGreatG31
import Derived.Test.YthbkccagpggljaaGreatG30
namespace Go.Proofs.YthbkccagpggljaaGreat.Mx
open Go.ChangeShapes Go.WideShapes Go.ChangeAt Go.RowKit
set_option linter.unusedVariables false
theorem St.off {v w w' : World} {g p : Nat} {A : Option Addr} {l : List Int} {cap : Nat} (h : St v g A l cap w) (hb : w.grownBy w' (some p)) (hg : g < p) : St v g A l cap w' :=
  ⟨bgb h.1 hb (Nat.le_of_lt h.2.lt) (Nat.le_of_lt hg), h.2.gb hb hg⟩
theorem gb_put {a b c : World} {g p : Nat} (h : a.grownBy b (some g)) (h2 : b.grownBy c (some p)) (hp : a.heap.size ≤ p) : a.grownBy c (some g) :=
  ⟨h2.os.trans h.os, h2.tape.trans h.tape, h2.output.trans h.output, Nat.le_trans h.size h2.size, fun k hk hr => (h2.block k (Nat.lt_of_lt_of_le hk h.size) (by intro e; injection e with e; omega)).trans (h.block k hk hr)⟩
def D12Rel (w : World) (q : Nat) (v : World) (g : Nat) (A : Option Addr) (l : List Int) (cap : Nat) (n : Nat) (y : VolN) (wr : World) : Prop :=
  n ≤ 9000 ∧ y.Inv ∧ ∃ A1 c1 B1 k1 C1 e1 b1 o1 t1, CellsAt wr q 86 #[.int .i64 y.key, .slice A1 y.counts.length c1, .slice B1 y.trusts.length k1, .slice C1 y.cells.length e1, .slice (some ⟨b1, o1, none⟩) 2 t1, .int .i64 y.count] ∧ CellsAt wr w.heap.size 86 #[.int .i64 0, .slice none 0 0, .slice none 0 0, .slice none 0 0, .slice none 0 0, .int .i64 0] ∧ VolO wr (w.heap.size + 1) y (.agg #[.int .i64 y.key, .slice A1 y.counts.length c1, .slice B1 y.trusts.length k1, .slice C1 y.cells.length e1, .slice (some ⟨b1, o1, none⟩) 2 t1, .int .i64 y.count]) ∧ St v g A l cap wr ∧ w.grownBy wr (some g)
def D12C (w : World) (q : Nat) (v : World) (g : Nat) (A : Option Addr) (l : List Int) (cap : Nat) (z : VolN) (VC : Array Value) (D : Nat → Bool) (γ : Nat → Value) (u : World) : Prop :=
  St v g A l cap u ∧ w.grownBy u (some g) ∧ CellsAt u w.heap.size 86 #[.int .i64 0, .slice none 0 0, .slice none 0 0, .slice none 0 0, .slice none 0 0, .int .i64 0] ∧ (D 8 = false → VolO u (w.heap.size + 1) z (.agg VC)) ∧ (D 8 = false → CellsAt u q 86 VC) ∧ q < u.heap.size ∧
  (D 3 = true → ∃ kind a b c : Int, γ 3 = .agg #[.int .i64 kind, .int .i64 a, .int .i64 b, .int .i64 c] ∧ (1 ≤ kind ∧ kind ≤ 9) ∧ (0 ≤ a ∧ a ≤ 1048576) ∧ (kind = 4 → a < z.trusts.length)) ∧
  (D 4 = true → ∃ (y : VolN) (cs : Array Value) (x : Value), γ 4 = .tuple #[.agg cs, x] ∧ y.Inv ∧ VolO u (q + 1) y (.agg cs)) ∧
  (D 8 = true → D 0 = true ∧ D 2 = true ∧ D 3 = true ∧ D 4 = true ∧ ∃ (cs : Array Value) (x : Value), γ 4 = .tuple #[.agg cs, x] ∧ CellsAt u q 86 cs) ∧
  (D 0 = true → γ 0 = .agg VC) ∧ (D 2 = true → γ 2 = .agg VC)
section
variable {w v u u' : World} {q g : Nat} {A : Option Addr} {l : List Int} {cap : Nat} {z : VolN} {VC : Array Value} {D : Nat → Bool} {γ γ' : Nat → Value}
theorem D12C.loc (ha : ∀ i, D i = true → γ i = γ' i) (h : D12C w q v g A l cap z VC D γ u) : D12C w q v g A l cap z VC D γ' u := by
  obtain ⟨h1, h2, h3, h4, h5, h6, h7, h8, h9, h10, h11⟩ := h
  refine ⟨h1, h2, h3, h4, h5, h6, fun e => ?_, fun e => ?_, fun e => ?_, fun e => ?_, fun e => ?_⟩
  · rw [← ha 3 e]; exact h7 e
  · rw [← ha 4 e]; exact h8 e
  · obtain ⟨a, b, c, d, k⟩ := h9 e
    rw [← ha 4 d]; exact ⟨a, b, c, d, k⟩
  · rw [← ha 0 e]; exact h10 e
  · rw [← ha 2 e]; exact h11 e
theorem D12C.start (hs : St v g A l cap u) (hg : w.grownBy u (some g)) (hk : CellsAt u w.heap.size 86 #[.int .i64 0, .slice none 0 0, .slice none 0 0, .slice none 0 0, .slice none 0 0, .int .i64 0]) (hv : VolO u (w.heap.size + 1) z (.agg VC)) (hb : CellsAt u q 86 VC) : D12C w q v g A l cap z VC (fun _ => false) γ u.drew :=
  ⟨hs.drew, gb_drew hg, hk.drew, fun _ => hv, fun _ => hb.drew, hb.lt, fun e => by (cases e), fun e => by (cases e), fun e => by (cases e), fun e => by (cases e), fun e => by (cases e)⟩
theorem D12C.d8 (h : D12C w q v g A l cap z VC D γ u) {i : Nat} (hi : i = 0 ∨ i = 2 ∨ i = 3 ∨ i = 4) (hD : D i = false) : D 8 = false := by
  cases e : D 8 with
  | false => rfl
  | true =>
    obtain ⟨a, b, c, d, -⟩ := h.2.2.2.2.2.2.2.2.1 e
    rcases hi with rfl | rfl | rfl | rfl
    · rw [a] at hD; cases hD
    · rw [b] at hD; cases hD
    · rw [c] at hD; cases hD
    · rw [d] at hD; cases hD
theorem D12C.load0 (h : D12C w q v g A l cap z VC D γ u) (hD : D 0 = false) : D12C w q v g A l cap z VC (setD D 0) (setG γ 0 (.agg VC)) u := by
  have d8 := h.d8 (.inl rfl) hD
  obtain ⟨h1, h2, h3, h4, h5, h6, h7, h8, h9, h10, h11⟩ := h
  refine ⟨h1, h2, h3, fun _ => h4 d8, fun _ => h5 d8, h6, fun e => ?_, fun e => ?_, fun e => ?_, fun e => setG_self, fun e => ?_⟩
  · rw [setD_ne (by omega)] at e; rw [setG_ne (by omega)]; exact h7 e
  · rw [setD_ne (by omega)] at e; rw [setG_ne (by omega)]; exact h8 e
  · rw [setD_ne (by omega), d8] at e; cases e
  · rw [setD_ne (by omega)] at e; rw [setG_ne (by omega)]; exact h11 e
theorem D12C.load2 (h : D12C w q v g A l cap z VC D γ u) (hD : D 2 = false) : D12C w q v g A l cap z VC (setD D 2) (setG γ 2 (.agg VC)) u := by
  have d8 := h.d8 (.inr (.inl rfl)) hD
  obtain ⟨h1, h2, h3, h4, h5, h6, h7, h8, h9, h10, h11⟩ := h
  refine ⟨h1, h2, h3, fun _ => h4 d8, fun _ => h5 d8, h6, fun e => ?_, fun e => ?_, fun e => ?_, fun e => ?_, fun e => setG_self⟩
  · rw [setD_ne (by omega)] at e; rw [setG_ne (by omega)]; exact h7 e
  · rw [setD_ne (by omega)] at e; rw [setG_ne (by omega)]; exact h8 e
  · rw [setD_ne (by omega), d8] at e; cases e
  · rw [setD_ne (by omega)] at e; rw [setG_ne (by omega)]; exact h10 e
theorem D12C.draw (h : D12C w q v g A l cap z VC D γ u) (hD : D 3 = false) (hg0 : g < w.heap.size) (hq : w.heap.size < q) {kind a b c : Int} (hk : 1 ≤ kind ∧ kind ≤ 9) (ha : 0 ≤ a ∧ a ≤ 1048576) (hka : kind = 4 → a < z.trusts.length) (hs : St v g A l cap u') (hg : u.grownBy u' (some g)) :
    D12C w q v g A l cap z VC (setD D 3) (setG γ 3 (.agg #[.int .i64 kind, .int .i64 a, .int .i64 b, .int .i64 c])) u' := by
  have d8 := h.d8 (.inr (.inr (.inl rfl))) hD
  obtain ⟨h1, h2, h3, h4, h5, h6, h7, h8, h9, h10, h11⟩ := h
  refine ⟨hs, gb_trans h2 hg, h3.grown hg (by intro e; injection e; omega), fun _ => (h4 d8).out hg (by omega), fun _ => (h5 d8).grown hg (by intro e; injection e; omega), Nat.lt_of_lt_of_le h6 hg.size, fun e => ⟨kind, a, b, c, setG_self, hk, ha, hka⟩, fun e => ?_, fun e => ?_, fun e => ?_, fun e => ?_⟩
  · rw [setD_ne (by omega)] at e; rw [setG_ne (by omega)]
    obtain ⟨y, cs, x, e1, e2, e3⟩ := h8 e
    exact ⟨y, cs, x, e1, e2, e3.out hg (by omega)⟩
  · rw [setD_ne (by omega), d8] at e; cases e
  · rw [setD_ne (by omega)] at e; rw [setG_ne (by omega)]; exact h10 e
  · rw [setD_ne (by omega)] at e; rw [setG_ne (by omega)]; exact h11 e
theorem D12C.did (h : D12C w q v g A l cap z VC D γ u) (hD : D 4 = false) (hg0 : g < w.heap.size) (hq : w.heap.size < q) {y : VolN} {cs : Array Value} {x : Value} (hi : y.Inv) (hv : VolO u' u.heap.size y (.agg cs)) (hb : Below u.heap.size u u') :
    D12C w q v g A l cap z VC (setD D 4) (setG γ 4 (.tuple #[.agg cs, x])) u' := by
  have d8 := h.d8 (.inr (.inr (.inr rfl))) hD
  obtain ⟨h1, h2, h3, h4, h5, h6, h7, h8, h9, h10, h11⟩ := h
  refine ⟨h1.below hb (by omega), gb_trans h2 (below_gb hb _), h3.below hb (by omega), fun _ => (h4 d8).below hb, fun _ => (h5 d8).below hb h6, Nat.lt_of_lt_of_le h6 hb.size, fun e => ?_, fun e => ⟨y, cs, x, setG_self, hi, hv.mono (by omega)⟩, fun e => ?_, fun e => ?_, fun e => ?_⟩
  · rw [setD_ne (by omega)] at e; rw [setG_ne (by omega)]; exact h7 e
  · rw [setD_ne (by omega), d8] at e; cases e
  · rw [setD_ne (by omega)] at e; rw [setG_ne (by omega)]; exact h10 e
  · rw [setD_ne (by omega)] at e; rw [setG_ne (by omega)]; exact h11 e
theorem D12C.store (h : D12C w q v g A l cap z VC D γ u) (d0 : D 0 = true) (d2 : D 2 = true) (d3 : D 3 = true) (d4 : D 4 = true) (hg0 : g < w.heap.size) (hq : w.heap.size < q) {cs : Array Value} {x xx : Value} (he : γ 4 = .tuple #[.agg cs, x]) (hc : CellsAt u' q 86 cs) (hg : u.grownBy u' (some q)) :
    D12C w q v g A l cap z VC (setD D 8) (setG γ 8 xx) u' := by
  obtain ⟨h1, h2, h3, h4, h5, h6, h7, h8, h9, h10, h11⟩ := h
  refine ⟨h1.off hg (by omega), gb_put h2 hg (by omega), h3.grown hg (by intro e; injection e; omega), fun e => ?_, fun e => ?_, Nat.lt_of_lt_of_le h6 hg.size, fun e => ?_, fun e => ?_, fun e => ?_, fun e => ?_, fun e => ?_⟩
  · rw [setD_self] at e; cases e
  · rw [setD_self] at e; cases e
  · rw [setG_ne (by omega)]; exact h7 d3
  · rw [setG_ne (by omega)]
    obtain ⟨y, cs, x, e1, e2, e3⟩ := h8 d4
    exact ⟨y, cs, x, e1, e2, e3.out hg (by omega)⟩
  · rw [setD_ne (by omega), setD_ne (by omega), setD_ne (by omega), setD_ne (by omega), setG_ne (by omega)]
    exact ⟨d0, d2, d3, d4, cs, x, he, hc⟩
  · rw [setG_ne (by omega)]; exact h10 d0
  · rw [setG_ne (by omega)]; exact h11 d2
end
def VolS (v w : World) (g : Nat) (A : Option Addr) (l : List Int) (cap : Nat) (e : Ending) (w' : World) : Prop :=
  ∃ (y : VolN) (cs : Array Value), e = .returned (.agg cs) ∧ y.Inv ∧ VolO w' w.heap.size y (.agg cs) ∧ St v g A l cap w' ∧ w.grownBy w' (some g)
set_option maxRecDepth 20000 in
set_option maxHeartbeats 8000000 in
theorem draw12_calls (v : World) (g : Nat) (A : Option Addr) (l : List Int) (cap : Nat) (w : World) (hn : l.length ≤ 4096) (h : St v g A l cap w) :
    Calls Tryz.prog 65 #[.pointer (some ⟨g, 0, none⟩)] w (VolS v w g A l cap) := by
  have HN := Lib.hid (show l.length ≤ maxLen by unfold maxLen; omega)
  have HL := h.2.lt
  have S0 := Lib.hid (h.alloc (.cells #[.int .i64 0, .slice none 0 0, .slice none 0 0, .slice none 0 0, .slice none 0 0, .int .i64 0] 86))
  have K0 := Lib.hid (CellsAt.new w 86 #[.int .i64 0, .slice none 0 0, .slice none 0 0, .slice none 0 0, .slice none 0 0, .int .i64 0])
  have G0 := Lib.hid (gb_alloc (gb_refl w (some g)) (.cells #[.int .i64 0, .slice none 0 0, .slice none 0 0, .slice none 0 0, .slice none 0 0, .int .i64 0] 86))
  have hnl : (l.length : Int) ≤ 4096 := by omega
  clear hn h
  go_enter Tryz.func65, Tryz.ntmps65
  go_wp2_with fail
  refine (draw5p_calls v g A l cap _ HN.out S0.out).mono ?_; rintro e w1 ⟨key, u, zs, rfl, hp, r1, s1, g1⟩
  obtain ⟨QA, qc, hq, hqi, hqc⟩ := r1.reads_cap
  subst hq
  have S1 := Lib.hid s1
  have K1 := Lib.hid (K0.out.grown g1 (by intro e; injection e; omega))
  have G1 := Lib.hid (gb_trans G0.out g1)
  have QI := Lib.hid hqi
  have HP := Lib.hid hp
  have hz1 : w.heap.size < w1.heap.size := by have := g1.size; simp at this; omega
  clear s1 g1 r1 hqi hp S0 K0 G0
  go_wp2_with fail
  refine (formatted_calls key QA zs qc _ hqc QI.out HP.out).mono ?_; rintro e w2 ⟨cs, rfl, hv, hb⟩
  obtain ⟨y, hy⟩ : ∃ y, y = formatVol key zs := ⟨_, rfl⟩
  have HI := Lib.hid (show y.Inv by rw [hy]; exact formatVol_inv HP.out)
  rw [← hy] at hv
  clear hy
  obtain ⟨A', c', B', d', C', e', b', o', s', e1, -⟩ := hv.reads
  subst e1
  have hz2 : w1.heap.size ≤ w2.heap.size := hb.size
  have s2 := S1.out.below hb (show g < w1.heap.size by omega)
  have k2 := K1.out.below hb hz1
  have g2 := gb_blw G1.out (hb.mono (by omega))
  have v2 := hv.mono (show w.heap.size + 1 ≤ w1.heap.size by omega)
  have s3 := s2.alloc (.cells #[.int .i64 y.key, .slice A' y.counts.length c', .slice B' y.trusts.length d', .slice C' y.cells.length e', .slice (some ⟨b', o', none⟩) 2 s', .int .i64 y.count] 86)
  have k3 := CellsAt.grown k2 (World.grownBy_alloc w2 (.cells #[.int .i64 y.key, .slice A' y.counts.length c', .slice B' y.trusts.length d', .slice C' y.cells.length e', .slice (some ⟨b', o', none⟩) 2 s', .int .i64 y.count] 86) none) (by simp)
  have g3 := gb_alloc g2 (.cells #[.int .i64 y.key, .slice A' y.counts.length c', .slice B' y.trusts.length d', .slice C' y.cells.length e', .slice (some ⟨b', o', none⟩) 2 s', .int .i64 y.count] 86)
  have v3 := v2.below ((Below.refl _ _).alloc (Nat.le_refl _) (.cells #[.int .i64 y.key, .slice A' y.counts.length c', .slice B' y.trusts.length d', .slice C' y.cells.length e', .slice (some ⟨b', o', none⟩) 2 s', .int .i64 y.count] 86))
  have b3 := CellsAt.new w2 86 #[.int .i64 y.key, .slice A' y.counts.length c', .slice B' y.trusts.length d', .slice C' y.cells.length e', .slice (some ⟨b', o', none⟩) 2 s', .int .i64 y.count]
  clear hv hb s2 k2 g2 v2 S1 K1 G1
  go_upto_region 2 with fail
  generalize World.alloc w2 _ = w3 at s3 k3 g3 v3 b3 ⊢
  have S3 := Lib.hid s3
  have K3 := Lib.hid k3
  have G3 := Lib.hid g3
  have V3 := Lib.hid v3
  have B3 := Lib.hid b3
  obtain ⟨i0, h0, hi0, hcur⟩ := s3.2.2
  have cu : ∀ i, w3.cell? ⟨g, i, none⟩ = #[.slice A l.length cap, .int .i64 i0, .int .i64 h0][i]? := hcur.cell
  have hwl : IntKind.i64.wrap (2 + (l.length : Int)) = 2 + l.length := IntWalk.i64_in _ (by omega)
  clear s3 k3 g3 v3 b3 hcur
  go_region_with (first
    | (go_at_call 44; refine (below_st v g A l cap 30 _ HN.out S3.out.drew (by omega)).mono ?_; rintro e wx ⟨n0, rfl, ⟨n00, n01⟩, sx, gx⟩; have hcx := sx.2.2; obtain ⟨i1, h1, hi1, hc1⟩ := hcx; have cx : ∀ i, wx.cell? ⟨g, i, none⟩ = #[.slice A l.length cap, .int .i64 i1, .int .i64 h1][i]? := hc1.cell; have SX := Lib.hid sx; have KX := Lib.hid (K3.out.drew.grown gx (by intro e; injection e; omega)); have GX := Lib.hid (gb_trans (gb_drew G3.out) gx); have VX := Lib.hid (VolO.out (show VolO w3.drew (w.heap.size + 1) y _ from V3.out) gx (by omega)); have BX := Lib.hid (B3.out.drew.grown gx (by intro e; injection e; omega)); clear sx gx hc1)
    | (go_at_call 60; refine (min_calls _ _ _).mono ?_; rintro e w' ⟨rfl, rfl⟩))
  all_goals
    obtain ⟨m, hm⟩ : ∃ m : Nat, min (2 + (l.length : Int)) n0 = m := ⟨(min (2 + (l.length : Int)) n0).toNat, by omega⟩
    rw [hm]
    have R0 := Lib.hid (show D12Rel w w2.heap.size v g A l cap m y wx from ⟨by omega, HI.out, A', c', B', d', C', e', b', o', s', BX.out, KX.out, VX.out, SX.out, GX.out⟩)
    have hl2 : w2.heap.size < wx.heap.size := BX.out.lt
    clear cu cx hm HI SX KX GX VX BX S3 K3 G3 V3 B3 QI hqc HP hwl hi0 n00 n01 hi1
    go_simp
    go_wp2_with fail
    trace_state
    go_loopw [4] (fun i wr => ∃ (n : Nat) (y : VolN), i = .int .i64 n ∧ D12Rel w w2.heap.size v g A l cap n y wr) (fun i _ => (intOf i).toNat)
    case atStart => exact ⟨m, y, rfl, R0.out⟩
    case round =>
      obtain ⟨n, z, rfl, hn9, hz, A1, c1, B1, k1, C1, e1, b1, o1, t1, hb, hk, hv, hs, hg⟩ := hrel
      have h6 : ∀ i, wr.cell? ⟨w2.heap.size, i, none⟩ = #[.int .i64 z.key, .slice A1 z.counts.length c1, .slice B1 z.trusts.length k1, .slice C1 z.cells.length e1, .slice (some ⟨b1, o1, none⟩) 2 t1, .int .i64 z.count][i]? := hb.cell
      have k6 : ∀ i, wr.cell? ⟨w.heap.size, i, none⟩ = #[.int .i64 0, .slice none 0 0, .slice none 0 0, .slice none 0 0, .slice none 0 0, .int .i64 0][i]? := hk.cell
      have f6 := hb.frozen
      have f7 := hk.frozen
      rcases n with _ | n
      · have HK := Lib.hid hk
        have HVO := Lib.hid hv
        have SO := Lib.hid hs
        have GO := Lib.hid hg
        have HZ := Lib.hid hz
        clear hk hv hs hg hz hb
        go_wp2_with fail
        have hvp := vol_put (x0 := .int .i64 z.key) (x1 := .slice A1 z.counts.length c1) (x2 := .slice B1 z.trusts.length k1) (x3 := .slice C1 z.cells.length e1) (x4 := .slice (some ⟨b1, o1, none⟩) 2 t1) (x5 := .int .i64 z.count) HK.out
        generalize World.setCell _ _ _ = w9 at hvp ⊢
        have d0 := hvp.1.cell 0
        have d1 := hvp.1.cell 1
        have d2 := hvp.1.cell 2
        have d3 := hvp.1.cell 3
        have d4 := hvp.1.cell 4
        have d5 := hvp.1.cell 5
        simp only [List.getElem?_toArray, List.getElem?_cons_zero, List.getElem?_cons_succ] at d0 d1 d2 d3 d4 d5
        exact bodyPost_ret (v := .agg #[.int .i64 z.key, .slice A1 z.counts.length c1, .slice B1 z.trusts.length k1, .slice C1 z.cells.length e1, .slice (some ⟨b1, o1, none⟩) 2 t1, .int .i64 z.count]) (by simp [results, Tryz.results65, go_sem, d0, d1, d2, d3, d4, d5]) rfl ⟨z, _, rfl, HZ.out, (HVO.out.out hvp.2 (by omega)).mono (by omega), SO.out.off hvp.2 HL, gb_put GO.out hvp.2 (Nat.le_refl _)⟩
      · have hd : (0 : Int) < ((n + 1 : Nat) : Int) := by omega
        have HK := Lib.hid hk
        have HB := Lib.hid hb
        have HVO := Lib.hid hv
        have SO := Lib.hid hs
        have GO := Lib.hid hg
        have HZ := Lib.hid hz
        clear hk hv hs hg hz hb
        obtain ⟨q1, q2, q3, q4⟩ : z.counts.length ≤ 1048576 ∧ z.trusts.length ≤ 1048576 ∧ z.cells.length ≤ 1048576 ∧ z.trusts.length = z.counts.length := by
          have a := HZ.out.short
          unfold VolN.Short at a
          have b := HZ.out.fit.1
          omega
        have q5 := HZ.out.pos
        have hlr : w2.heap.size < wr.heap.size := HB.out.lt
        go_upto_region 5 with fail
        have hq2 : w.heap.size < w2.heap.size := by omega
        have C0 := Lib.hid (fun γ => D12C.start (γ := γ) SO.out GO.out HK.out HVO.out HB.out)
        refine wp_region_free [true, false, true, true, true, false, false, false, true] (ShL [(0, fun v => v = .agg #[.int .i64 z.key, .slice A1 z.counts.length c1, .slice B1 z.trusts.length k1, .slice C1 z.cells.length e1, .slice (some ⟨b1, o1, none⟩) 2 t1, .int .i64 z.count]), (2, fun v => v = .agg #[.int .i64 z.key, .slice A1 z.counts.length c1, .slice B1 z.trusts.length k1, .slice C1 z.cells.length e1, .slice (some ⟨b1, o1, none⟩) 2 t1, .int .i64 z.count]), (3, fun v => ∃ kind a b c : Int, v = .agg #[.int .i64 kind, .int .i64 a, .int .i64 b, .int .i64 c]), (4, fun v => ∃ (a0 : Int) (A0 : Option Addr) (b0 c0 : Nat) (A1 : Option Addr) (b1 c1 : Nat) (A2 : Option Addr) (b2 c2 : Nat) (A3 : Option Addr) (b3 c3 : Nat) (a4 x0 x1 : Int), v = .tuple #[.agg #[.int .i64 a0, .slice A0 b0 c0, .slice A1 b1 c1, .slice A2 b2 c2, .slice A3 b3 c3, .int .i64 a4], .agg #[.int .i64 x0, .int .i64 x1]])]) (fun D γ u => D12C w w2.heap.size v g A l cap z #[.int .i64 z.key, .slice A1 z.counts.length c1, .slice B1 z.trusts.length k1, .slice C1 z.cells.length e1, .slice (some ⟨b1, o1, none⟩) 2 t1, .int .i64 z.count] D γ u) (by kernel_rfl) (by kernel_rfl) (fun γ => by kernel_rfl) (fun D γ γ' w ha h => h.loc ha) (ShL.inh _ ?inh) (fun γ => C0.out γ) (fun γ hγ => ?_)
        case inh =>
          intro y hy
          simp only [List.mem_cons, List.not_mem_nil, or_false] at hy
          rcases hy with rfl | rfl | rfl | rfl
          · exact ⟨_, rfl⟩
          · exact ⟨_, rfl⟩
          · exact ⟨_, 0, 0, 0, 0, rfl⟩
          · exact ⟨_, 0, none, 0, 0, none, 0, 0, none, 0, 0, none, 0, 0, 0, 0, 0, rfl⟩
        have e0 : γ 0 = .agg #[.int .i64 z.key, .slice A1 z.counts.length c1, .slice B1 z.trusts.length k1, .slice C1 z.cells.length e1, .slice (some ⟨b1, o1, none⟩) 2 t1, .int .i64 z.count] := hγ 0 rfl
        have e2 : γ 2 = .agg #[.int .i64 z.key, .slice A1 z.counts.length c1, .slice B1 z.trusts.length k1, .slice C1 z.cells.length e1, .slice (some ⟨b1, o1, none⟩) 2 t1, .int .i64 z.count] := hγ 2 rfl
        obtain ⟨kd, na, nb, nc, e3⟩ : ∃ kind a b c : Int, γ 3 = .agg #[.int .i64 kind, .int .i64 a, .int .i64 b, .int .i64 c] := hγ 3 rfl
        obtain ⟨p0, P0, r0, s0, P1, r1, s1, P2, r2, s2, P3, r3, s3, p4, x0, x1, e4⟩ : ∃ (a0 : Int) (A0 : Option Addr) (b0 c0 : Nat) (A1 : Option Addr) (b1 c1 : Nat) (A2 : Option Addr) (b2 c2 : Nat) (A3 : Option Addr) (b3 c3 : Nat) (a4 x0 x1 : Int), γ 4 = .tuple #[.agg #[.int .i64 a0, .slice A0 b0 c0, .slice A1 b1 c1, .slice A2 b2 c2, .slice A3 b3 c3, .int .i64 a4], .agg #[.int .i64 x0, .int .i64 x1]] := hγ 4 rfl
        have e8 : γ 8 = undef := hγ 8 rfl
        clear hγ C0
        apply Exists.intro
        refine ⟨fun D => ?_, ?_, ?_⟩
        · simp only [hushL, cond_true, cond_false, Nat.reduceAdd, e0, e2, e3, e4, e8]
          iterate 9 (first
            | go_big_quiet_skip
            | (go_big_quiet_want
               go_big_quiet_op
               first
                 | go_big_quiet_on
                 | (apply Exists.intro
                    refine ⟨fun u hu => ?_, ?_⟩
                    · first
                        | with_reducible rfl
                        | (go_simp; first | done | with_reducible rfl)
                    go_big_quiet_on)))
          exact wpQuiet_nil rfl
        · simp only [freeOk, Nat.reduceAdd]
          refine ⟨fun D u hD hd hu => ?_, fun D u hD hd hu => ?_, fun D u hD hd hu => ?_, fun D u hD hd hu => ?_, fun D u hD hd hu => ?_, trivial⟩
          · exact steps_load (hu.2.2.2.2.1 (hu.d8 (.inl rfl) hD)) rfl rfl Tryz.underlying86 rfl (by kernel_rfl) ⟨rfl, hu.load0 hD⟩
          · exact steps_load (hu.2.2.2.2.1 (hu.d8 (.inr (.inl rfl)) hD)) rfl rfl Tryz.underlying86 rfl (by kernel_rfl) ⟨rfl, hu.load2 hD⟩
          · exact steps_call ((l14Draw_st v g A l cap u HN.out hu.1 z.key z.count A1 B1 C1 _ z.counts.length c1 z.trusts.length k1 z.cells.length e1 2 t1 q2 q3 q5).mono fun e w' ⟨kind, a, b, c, he, hkd, ha, hka, sy, gy⟩ => ⟨_, he, ⟨_, _, _, _, rfl⟩, hu.draw hD HL hq2 hkd ha hka sy gy⟩) rfl rfl rfl rfl (by kernel_rfl)
          · have d3 := hd { on := 3, ground := Ground.data } (by simp) rfl rfl
            have d8 := hu.d8 (.inr (.inr (.inr rfl))) hD
            obtain ⟨kind, a, b, c, ee, hkd, ha, hka⟩ := hu.2.2.2.2.2.2.1 d3
            rw [e3] at ee
            simp only [Value.agg.injEq, Array.mk.injEq, List.cons.injEq, Value.int.injEq, true_and, and_true] at ee
            obtain ⟨rfl, rfl, rfl, rfl⟩ := ee
            exact steps_call ((l14Do_r z _ u HZ.out (hu.2.2.2.1 d8).reads kd na nb nc hkd.1 hkd.2 ⟨by omega, by omega⟩ (fun h4 => ⟨ha.1, by have := hka h4; omega⟩)).mono fun e w' ⟨cs, he, hv5, hb5⟩ => ⟨_, he, by obtain ⟨A', c', B', d', C', e', b', o', s', e1q, -⟩ := hv5.reads; rw [e1q]; exact ⟨_, _, _, _, _, _, _, _, _, _, _, _, _, _, _, _, rfl⟩, hu.did hD HL hq2 (doVol_inv HZ.out kd na nb nc) hv5 hb5⟩) rfl rfl rfl rfl (by kernel_rfl)
          · have d0 := hd { on := 0, ground := Ground.phase } (by simp) rfl rfl
            have d2 := hd { on := 2, ground := Ground.phase } (by simp) rfl rfl
            have d3 := hd { on := 3, ground := Ground.phase } (by simp) rfl rfl
            have d4 := hd { on := 4, ground := Ground.phase } (by simp) rfl rfl
            exact steps_store (hu.2.2.2.2.1 hD) rfl rfl rfl (by kernel_rfl) (by simp) (by simp [Value.oneCell']) (fun w' hc hg => ⟨rfl, hu.store d0 d2 d3 d4 HL hq2 e4 hc hg⟩)
        · intro D uf hD hu
          obtain ⟨h1, h2, h3, h4, h5, h6, h7, h8, h9, h10, h11⟩ := hu
          obtain ⟨y2, cs, x, e5, hi5, hv5⟩ := h8 (hD 4 (by simp) rfl)
          obtain ⟨-, -, -, -, cs', x', e6, hc6⟩ := h9 (hD 8 (by simp) rfl)
          obtain ⟨A', c', B', d', C', e', b', o', s', e1q, -⟩ := hv5.reads
          injection e1q with e1q
          rw [e5] at e6
          injection e6 with e6
          simp only [Array.mk.injEq, List.cons.injEq, Value.agg.injEq, and_true] at e6
          obtain ⟨e6, -⟩ := e6
          subst e6
          subst e1q
          have HR := Lib.hid (show D12Rel w w2.heap.size v g A l cap n y2 uf from ⟨by omega, hi5, A', c', B', d', C', e', b', o', s', hc6, h3, hv5.mono (by omega), h1, h2⟩)
          clear h1 h2 h3 h4 h5 h6 h7 h8 h9 h10 h11 hi5 hv5 hc6 e4 e5 e0 e2 e3 e8 hD
          clear HK HB HVO SO GO HZ h6 k6 f6 f7
          go_simp
          go_wp2_with fail
          go_roundw
          case rel => exact ⟨n, y2, by go_num, HR.out⟩
          case measure => simp [intOf]
end Go.Proofs.YthbkccagpggljaaGreat.Mx
namespace Go.Proofs.YthbkccagpggljaaGreat.Mx
open Go.ChangeShapes Go.WideShapes Go.ChangeAt Go.RowKit
set_option linter.unusedVariables false
def TruS (v w : World) (g : Nat) (A : Option Addr) (l : List Int) (cap : Nat) (e : Ending) (w' : World) : Prop :=
  ∃ (key : Int) (Q : Option Addr) (zs : List Int) (c : Nat) (x : Int) (t : Tru), e = .returned (.tuple #[.agg #[.int .i64 key, .slice Q zs.length c], .int .i64 x, .agg #[.int .i64 t.clock, .int .i64 t.epoch, .int .i64 t.cursor, .int .i64 t.read, .int .i64 t.written, .int .i64 t.nread, .int .i64 t.nwritten, .bool t.failed]]) ∧ I64 x ∧ zs.length ≤ 5 ∧ zs.length ≤ c ∧ TruI t ∧ Row w' w.heap.size 2 (.slice Q zs.length c) zs ∧ St v g A l cap w' ∧ w.grownBy w' (some g)
theorem VolO.open_ {u : World} {base : Nat} {x : VolN} {cs : Array Value} (h : VolO u base x (.agg cs)) (hi : x.Inv) :
    ∃ A c B d C e b sc, cs = #[.int .i64 x.key, .slice A x.counts.length c, .slice B x.trusts.length d, .slice C x.cells.length e, .slice (some ⟨b, 0, none⟩) 2 sc, .int .i64 x.count] ∧ Row u base 2 (.slice A x.counts.length c) x.counts ∧ x.counts.length ≤ c ∧ TrRow u base (.slice B x.trusts.length d) x.trusts := by
  obtain ⟨A, c, B, d, C, e, b, A0, c0, C0, d0, A1, c1, C1, d1, h0, h1, h2, -⟩ := h
  injection h0 with h0
  obtain ⟨A', c', e1, -, hc⟩ := h1.form
  simp only [Value.slice.injEq, true_and] at e1
  obtain ⟨rfl, rfl⟩ := e1
  refine ⟨A, c, B, d, C, e, b, 2, h0, ⟨h1, fun i hl => ?_⟩, hc, h2⟩
  have := hi.1.2.2.1 i hl
  omega
theorem plan_put {w1 : World} {r : Nat} {t : TypeId} {x0 x1 y0 y1 : Value} (hk : CellsAt w1 r t #[y0, y1]) :
    CellsAt ((w1.setCell ⟨r, 0, none⟩ x0).setCell ⟨r, 1, none⟩ x1) r t #[x0, x1] ∧ w1.grownBy ((w1.setCell ⟨r, 0, none⟩ x0).setCell ⟨r, 1, none⟩ x1) (some r) :=
  ⟨(hk.set_ 0 x0).set_ 1 x1, gb_set (gb_set (gb_refl w1 (some r)) 0 x0) 1 x1⟩
theorem tru_put {w1 : World} {r : Nat} {t : TypeId} {x0 x1 x2 x3 x4 x5 x6 x7 y0 y1 y2 y3 y4 y5 y6 y7 : Value} (hk : CellsAt w1 r t #[y0, y1, y2, y3, y4, y5, y6, y7]) :
    CellsAt ((((((((w1.setCell ⟨r, 0, none⟩ x0).setCell ⟨r, 1, none⟩ x1).setCell ⟨r, 2, none⟩ x2).setCell ⟨r, 3, none⟩ x3).setCell ⟨r, 4, none⟩ x4).setCell ⟨r, 5, none⟩ x5).setCell ⟨r, 6, none⟩ x6).setCell ⟨r, 7, none⟩ x7) r t #[x0, x1, x2, x3, x4, x5, x6, x7] ∧
    w1.grownBy ((((((((w1.setCell ⟨r, 0, none⟩ x0).setCell ⟨r, 1, none⟩ x1).setCell ⟨r, 2, none⟩ x2).setCell ⟨r, 3, none⟩ x3).setCell ⟨r, 4, none⟩ x4).setCell ⟨r, 5, none⟩ x5).setCell ⟨r, 6, none⟩ x6).setCell ⟨r, 7, none⟩ x7) (some r) := by
  have h := (((((((hk.set_ 0 x0).set_ 1 x1).set_ 2 x2).set_ 3 x3).set_ 4 x4).set_ 5 x5).set_ 6 x6).set_ 7 x7
  simp only [List.setIfInBounds_toArray, List.set_cons_zero, List.set_cons_succ] at h
  exact ⟨h, gb_set (gb_set (gb_set (gb_set (gb_set (gb_set (gb_set (gb_set (gb_refl w1 (some r)) 0 x0) 1 x1) 2 x2) 3 x3) 4 x4) 5 x5) 6 x6) 7 x7⟩
theorem TruS.drew {v w u : World} {g : Nat} {A : Option Addr} {l : List Int} {cap : Nat} {e : Ending} (h : TruS v w g A l cap e u) : TruS v w g A l cap e u.drew := by
  obtain ⟨key, Q, zs, c, x, t, h1, h2, h3, h4, h5, h6, h7, h8⟩ := h
  exact ⟨key, Q, zs, c, x, t, h1, h2, h3, h4, h5, ⟨h6.1.drew, h6.2⟩, h7.drew, gb_drew h8⟩
theorem pt_end {v w w3 : World} {g p q : Nat} {A : Option Addr} {l : List Int} {cap : Nat} {key x : Int} {Q : Option Addr} {zs : List Int} {c : Nat} {t : Tru} {u0 u1 z0 z1 z2 z3 z4 z5 z6 z7 : Value} (hg : g < w.heap.size) (hp : w.heap.size ≤ p) (hpq : p < q) (hk : CellsAt w3 p 26 #[u0, u1]) (hr : CellsAt w3 q 30 #[z0, z1, z2, z3, z4, z5, z6, z7]) (hs : St v g A l cap w3) (hG : w.grownBy w3 (some g))
    (hR : Row w3 (q + 1) 2 (.slice Q zs.length c) zs) (hx : I64 x) (h5 : zs.length ≤ 5) (hc : zs.length ≤ c) (ht : TruI t) :
    ∃ w4, ((((((((((w3.setCell ⟨p, 0, none⟩ (.int .i64 key)).setCell ⟨p, 1, none⟩ (.slice Q zs.length c)).setCell ⟨q, 0, none⟩ (.int .i64 t.clock)).setCell ⟨q, 1, none⟩ (.int .i64 t.epoch)).setCell ⟨q, 2, none⟩ (.int .i64 t.cursor)).setCell ⟨q, 3, none⟩ (.int .i64 t.read)).setCell ⟨q, 4, none⟩ (.int .i64 t.written)).setCell ⟨q, 5, none⟩ (.int .i64 t.nread)).setCell ⟨q, 6, none⟩ (.int .i64 t.nwritten)).setCell ⟨q, 7, none⟩ (.bool t.failed)) = w4 ∧
      (w4.cell? ⟨p, 0, none⟩ = some (.int .i64 key) ∧ w4.cell? ⟨p, 1, none⟩ = some (.slice Q zs.length c)) ∧
      (w4.cell? ⟨q, 0, none⟩ = some (.int .i64 t.clock) ∧ w4.cell? ⟨q, 1, none⟩ = some (.int .i64 t.epoch) ∧ w4.cell? ⟨q, 2, none⟩ = some (.int .i64 t.cursor) ∧ w4.cell? ⟨q, 3, none⟩ = some (.int .i64 t.read) ∧ w4.cell? ⟨q, 4, none⟩ = some (.int .i64 t.written) ∧ w4.cell? ⟨q, 5, none⟩ = some (.int .i64 t.nread) ∧ w4.cell? ⟨q, 6, none⟩ = some (.int .i64 t.nwritten) ∧ w4.cell? ⟨q, 7, none⟩ = some (.bool t.failed)) ∧
      TruS v w g A l cap (.returned (.tuple #[.agg #[.int .i64 key, .slice Q zs.length c], .int .i64 x, .agg #[.int .i64 t.clock, .int .i64 t.epoch, .int .i64 t.cursor, .int .i64 t.read, .int .i64 t.written, .int .i64 t.nread, .int .i64 t.nwritten, .bool t.failed]])) w4 := by
  have h1 := plan_put (x0 := .int .i64 key) (x1 := .slice Q zs.length c) hk
  have hr1 := hr.grown h1.2 (by intro e; injection e; omega)
  have h2 := tru_put (x0 := .int .i64 t.clock) (x1 := .int .i64 t.epoch) (x2 := .int .i64 t.cursor) (x3 := .int .i64 t.read) (x4 := .int .i64 t.written) (x5 := .int .i64 t.nread) (x6 := .int .i64 t.nwritten) (x7 := .bool t.failed) hr1
  have hk2 := h1.1.grown h2.2 (by intro e; injection e; omega)
  refine ⟨_, rfl, ⟨hk2.cell 0, hk2.cell 1⟩, ⟨h2.1.cell 0, h2.1.cell 1, h2.1.cell 2, h2.1.cell 3, h2.1.cell 4, h2.1.cell 5, h2.1.cell 6, h2.1.cell 7⟩, key, Q, zs, c, x, t, rfl, hx, h5, hc, ht, ?_, (hs.off h1.2 (by omega)).off h2.2 (by omega), gb_put (gb_put hG h1.2 hp) h2.2 (by omega)⟩
  exact ((hR.grown h1.2 (by omega)).grown h2.2 (by omega)).mono (by omega)
set_option maxRecDepth 20000 in
set_option maxHeartbeats 8000000 in
theorem draw7_calls (v : World) (g : Nat) (A : Option Addr) (l : List Int) (cap : Nat) (w : World) (hn : l.length ≤ 4096) (h : St v g A l cap w) :
    Calls Tryz.prog 50 #[.pointer (some ⟨g, 0, none⟩)] w (TruS v w g A l cap) := by
  have HN := Lib.hid (show l.length ≤ maxLen by unfold maxLen; omega)
  have HM := Lib.hid hn
  have HL := h.2.lt
  have S0 := Lib.hid ((h.alloc (.cells #[.int .i64 0, .slice none 0 0] 26)).alloc (.cells #[.int .i64 0, .int .i64 0, .int .i64 0, .int .i64 0, .int .i64 0, .int .i64 0, .int .i64 0, .bool false] 30))
  have K0 := Lib.hid (show CellsAt ((w.alloc (.cells #[.int .i64 0, .slice none 0 0] 26)).alloc (.cells #[.int .i64 0, .int .i64 0, .int .i64 0, .int .i64 0, .int .i64 0, .int .i64 0, .int .i64 0, .bool false] 30)) w.heap.size 26 #[.int .i64 0, .slice none 0 0] from CellsAt.grown (CellsAt.new w _ _) (World.grownBy_alloc _ _ none) (by simp))
  have Q0 := Lib.hid (show CellsAt ((w.alloc (.cells #[.int .i64 0, .slice none 0 0] 26)).alloc (.cells #[.int .i64 0, .int .i64 0, .int .i64 0, .int .i64 0, .int .i64 0, .int .i64 0, .int .i64 0, .bool false] 30)) (w.heap.size + 1) 30 #[.int .i64 0, .int .i64 0, .int .i64 0, .int .i64 0, .int .i64 0, .int .i64 0, .int .i64 0, .bool false] from by
    have q := CellsAt.new (w.alloc (.cells #[.int .i64 0, .slice none 0 0] 26)) 30 #[.int .i64 0, .int .i64 0, .int .i64 0, .int .i64 0, .int .i64 0, .int .i64 0, .int .i64 0, .bool false]
    rwa [show (w.alloc (.cells #[.int .i64 0, .slice none 0 0] 26)).heap.size = w.heap.size + 1 by simp] at q)
  have G0 := Lib.hid (gb_alloc (gb_alloc (gb_refl w (some g)) (.cells #[.int .i64 0, .slice none 0 0] 26)) (.cells #[.int .i64 0, .int .i64 0, .int .i64 0, .int .i64 0, .int .i64 0, .int .i64 0, .int .i64 0, .bool false] 30))
  clear hn h
  go_enter Tryz.func50, Tryz.ntmps50
  go_wp2_with fail
  refine (draw12_calls v g A l cap _ HM.out S0.out).mono ?_; rintro e w1 ⟨y, cs, rfl, hi, hv, s1, g1⟩
  obtain ⟨A', c', B', d', C', e', b', s', rfl, hrow, hcc, htr⟩ := hv.open_ hi
  have hz1 : w.heap.size + 1 < w1.heap.size := by have := g1.size; simp at this; omega
  have HR := Lib.hid (show Row w1 (w.heap.size + 1 + 1) 2 _ y.counts from by simpa using hrow)
  have HT := Lib.hid (show TrRow w1 (w.heap.size + 1 + 1) (.slice B' y.trusts.length d') y.trusts from by simpa using htr)
  have HI := Lib.hid hi
  have k1 := K0.out.grown g1 (by intro e; injection e; omega)
  have q1 := Q0.out.grown g1 (by intro e; injection e; omega)
  have S1 := Lib.hid (s1.alloc (.cells #[.int .i64 y.key, .slice A' y.counts.length c', .slice B' y.trusts.length d', .slice C' y.cells.length e', .slice (some ⟨b', 0, none⟩) 2 s', .int .i64 y.count] 86))
  have K1 := Lib.hid (CellsAt.grown k1 (World.grownBy_alloc w1 (.cells #[.int .i64 y.key, .slice A' y.counts.length c', .slice B' y.trusts.length d', .slice C' y.cells.length e', .slice (some ⟨b', 0, none⟩) 2 s', .int .i64 y.count] 86) none) (by simp))
  have Q1 := Lib.hid (CellsAt.grown q1 (World.grownBy_alloc w1 (.cells #[.int .i64 y.key, .slice A' y.counts.length c', .slice B' y.trusts.length d', .slice C' y.cells.length e', .slice (some ⟨b', 0, none⟩) 2 s', .int .i64 y.count] 86) none) (by simp))
  have B1 := Lib.hid (CellsAt.new w1 86 #[.int .i64 y.key, .slice A' y.counts.length c', .slice B' y.trusts.length d', .slice C' y.cells.length e', .slice (some ⟨b', 0, none⟩) 2 s', .int .i64 y.count])
  have G1 := Lib.hid (gb_alloc (gb_trans G0.out g1) (.cells #[.int .i64 y.key, .slice A' y.counts.length c', .slice B' y.trusts.length d', .slice C' y.cells.length e', .slice (some ⟨b', 0, none⟩) 2 s', .int .i64 y.count] 86))
  have R1 := Lib.hid (HR.out.alloc (.cells #[.int .i64 y.key, .slice A' y.counts.length c', .slice B' y.trusts.length d', .slice C' y.cells.length e', .slice (some ⟨b', 0, none⟩) 2 s', .int .i64 y.count] 86))
  have T1 := Lib.hid (HT.out.alloc (.cells #[.int .i64 y.key, .slice A' y.counts.length c', .slice B' y.trusts.length d', .slice C' y.cells.length e', .slice (some ⟨b', 0, none⟩) 2 s', .int .i64 y.count] 86))
  clear hi hv hrow htr s1 g1 k1 q1 HR HT K0 Q0 S0 G0
  go_upto_region 2 with fail
  generalize World.alloc w1 _ = w2 at S1 K1 Q1 B1 G1 R1 T1 ⊢
  have b2 : ∀ i, w2.cell? ⟨w1.heap.size, i, none⟩ = #[.int .i64 y.key, .slice A' y.counts.length c', .slice B' y.trusts.length d', .slice C' y.cells.length e', .slice (some ⟨b', 0, none⟩) 2 s', .int .i64 y.count][i]? := B1.out.cell
  have hpos := HI.out.pos
  go_wp2_with fail
  refine (below_st v g A l cap _ _ HN.out S1.out (by omega)).mono ?_; rintro e w3 ⟨x, rfl, ⟨x0, x1⟩, s3, g3⟩
  obtain ⟨k, rfl⟩ := Int.eq_ofNat_of_zero_le x0
  have hk : k < y.trusts.length := by omega
  have hk' : (k : Int) < (y.trusts.length : Int) := by omega
  have hlw : w1.heap.size < w2.heap.size := B1.out.lt
  have T3 := SRow.grown T1.out g3 (by omega)
  obtain ⟨bT, oT, rfl, hbT, hT3⟩ := Trs.at_ (row_cls T3 truV_len) hk
  have hb0 : w.heap.size + 1 + 1 ≤ bT := (SRow.lt T3 rfl).1
  have hb1 : ¬ w.heap.size = bT := by omega
  have hb2 : ¬ w.heap.size + 1 = bT := by omega
  have hb3 : ¬ bT = w.heap.size := by omega
  have hb4 : ¬ bT = w.heap.size + 1 := by omega
  clear T3
  have K3 := Lib.hid (K1.out.grown g3 (by intro e; injection e; omega))
  have Q3 := Lib.hid (Q1.out.grown g3 (by intro e; injection e; omega))
  have B3 := Lib.hid (B1.out.grown g3 (by intro e; injection e; omega))
  have R3 := Lib.hid (R1.out.grown g3 (by omega))
  have S3 := Lib.hid s3
  have G3 := Lib.hid (gb_trans G1.out g3)
  have HTI := Lib.hid (HI.out.2.1.i64 k hk)
  generalize y.trusts.getD k default = t at hT3 HTI
  obtain ⟨m0, m1, m2, m3, m4, m5, m6, m7⟩ := hT3
  clear b2 s3 g3 K1 Q1 B1 R1 S1 G1 T1
  have b3 : ∀ i, w3.cell? ⟨w1.heap.size, i, none⟩ = _ := B3.out.cell
  have k3 : ∀ i, w3.cell? ⟨w.heap.size, i, none⟩ = #[.int .i64 0, .slice none 0 0][i]? := K3.out.cell
  have q3 : ∀ i, w3.cell? ⟨w.heap.size + 1, i, none⟩ = #[.int .i64 0, .int .i64 0, .int .i64 0, .int .i64 0, .int .i64 0, .int .i64 0, .int .i64 0, .bool false][i]? := Q3.out.cell
  have f3 := K3.out.frozen
  have f4 := Q3.out.frozen
  go_upto_region 3 with fail
  go_region
  go_wp2_with fail
  obtain ⟨w9, e9, ⟨d0, d1⟩, ⟨t0, t1, t2, t3, t4, t5, t6, t7⟩, h9⟩ := pt_end (key := y.key) (x := (k : Int)) HL (Nat.le_refl _) (show w.heap.size < w.heap.size + 1 by omega) K3.out Q3.out S3.out G3.out R3.out ⟨by omega, by have := HI.out.1.2.1.2; have := HI.out.fit.1; omega⟩ (by have := HI.out.1.2.1.2; omega) hcc HTI.out
  rw [e9]
  have H9 := Lib.hid h9.drew
  clear e9 h9
  exact bodyPost_ret (v := .tuple #[.agg #[.int .i64 y.key, .slice A' y.counts.length c'], .int .i64 k, .agg #[.int .i64 t.clock, .int .i64 t.epoch, .int .i64 t.cursor, .int .i64 t.read, .int .i64 t.written, .int .i64 t.nread, .int .i64 t.nwritten, .bool t.failed]]) (by simp [results, Tryz.results50, go_sem, d0, d1, t0, t1, t2, t3, t4, t5, t6, t7]) rfl H9.out
end Go.Proofs.YthbkccagpggljaaGreat.Mx

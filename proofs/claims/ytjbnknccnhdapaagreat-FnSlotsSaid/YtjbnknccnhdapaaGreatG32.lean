import Derived.Test.YtjbnknccnhdapaaGreatG28
import Derived.Test.YtjbnknccnhdapaaGreatG29
import Derived.Test.YtjbnknccnhdapaaGreatG31
import Derived.Test.YtjbnknccnhdapaaGreatG30
import Derived.Test.YtjbnknccnhdapaaGreatG02
import Derived.Test.YtjbnknccnhdapaaGreatG13
import Derived.Test.YtjbnknccnhdapaaGreatG07
import Derived.Test.YtjbnknccnhdapaaGreatG04
import Derived.Test.YtjbnknccnhdapaaGreatG19
import Derived.Deep.CutRange
import Derived.Test.YtjbnknccnhdapaaGreatG10
namespace Go.Proofs.YtjbnknccnhdapaaGreat.Mx
open Go.ChangeShapes Go.WideShapes Go.ChangeAt Go.RowKit
set_option linter.unusedVariables false
theorem St.off {v w w' : World} {g p : Nat} {A : Option Addr} {l : List Int} {cap : Nat} (h : St v g A l cap w) (hb : w.grownBy w' (some p)) (hg : g < p) : St v g A l cap w' :=
 ⟨bgb h.1 hb (Nat.le_of_lt h.2.lt) (Nat.le_of_lt hg), h.2.gb hb hg⟩
theorem gb_put {a b c : World} {g p : Nat} (h : a.grownBy b (some g)) (h2 : b.grownBy c (some p)) (hp : a.heap.size ≤ p) : a.grownBy c (some g) :=
 ⟨h2.os.trans h.os, h2.tape.trans h.tape, h2.output.trans h.output, Nat.le_trans h.size h2.size, fun k hk hr => (h2.block k (Nat.lt_of_lt_of_le hk h.size) (by intro e; injection e with e; omega)).trans (h.block k hk hr)⟩
def D12Rel (w : World) (q : Nat) (v : World) (g : Nat) (A : Option Addr) (l : List Int) (cap : Nat) (n : Nat) (y : VolN) (wr : World) : Prop :=
 n ≤ 9000 ∧ y.Inv ∧ ∃ A1 c1 B1 k1 C1 e1 b1 o1 t1, CellsAt wr q 45 (vX y A1 c1 B1 k1 C1 e1 b1 o1 t1) ∧ CellsAt wr w.heap.size 45 zV ∧ VolO wr (w.heap.size + 1) y (.agg (vX y A1 c1 B1 k1 C1 e1 b1 o1 t1)) ∧ St v g A l cap wr ∧ w.grownBy wr (some g)
def D12C (w : World) (q : Nat) (v : World) (g : Nat) (A : Option Addr) (l : List Int) (cap : Nat) (z : VolN) (VC : Array Value) (D : Nat → Bool) (γ : Nat → Value) (u : World) : Prop :=
 St v g A l cap u ∧ w.grownBy u (some g) ∧ CellsAt u w.heap.size 45 zV ∧ (D 8 = false → VolO u (w.heap.size + 1) z (.agg VC)) ∧ (D 8 = false → CellsAt u q 45 VC) ∧ q < u.heap.size ∧
 (D 3 = true → ∃ kind a b c : Int, γ 3 = .agg #[.int .i64 kind, .int .i64 a, .int .i64 b, .int .i64 c] ∧ (1 ≤ kind ∧ kind ≤ 9) ∧ (0 ≤ a ∧ a ≤ 1048576) ∧ (kind = 4 → a < z.trusts.length)) ∧
 (D 4 = true → ∃ (y : VolN) (cs : Array Value) (x : Value), γ 4 = .tuple #[.agg cs, x] ∧ y.Inv ∧ VolO u (q + 1) y (.agg cs)) ∧
 (D 8 = true → D 0 = true ∧ D 2 = true ∧ D 3 = true ∧ D 4 = true ∧ ∃ (cs : Array Value) (x : Value), γ 4 = .tuple #[.agg cs, x] ∧ CellsAt u q 45 cs) ∧
 (D 0 = true → γ 0 = .agg VC) ∧ (D 2 = true → γ 2 = .agg VC)
section
variable {w v u u' : World} {q g : Nat} {A : Option Addr} {l : List Int} {cap : Nat} {z : VolN} {VC : Array Value} {D : Nat → Bool} {γ γ' : Nat → Value}
theorem D12C.loc (ha : ∀ i, D i = true → γ i = γ' i) (h : D12C w q v g A l cap z VC D γ u) : D12C w q v g A l cap z VC D γ' u := by
 obtain ⟨h1, h2, h3, h4, h5, h6, h7, h8, h9, h10, h11⟩ := h
 refine ⟨h1, h2, h3, h4, h5, h6, fun e => ?_, fun e => ?_, fun e => ?_, fun e => ?_, fun e => ?_⟩
 ·rw [← ha 3 e]; exact h7 e
 ·rw [← ha 4 e]; exact h8 e
 ·obtain ⟨a, b, c, d, k⟩ := h9 e
  rw [← ha 4 d]; exact ⟨a, b, c, d, k⟩
 ·rw [← ha 0 e]; exact h10 e
 ·rw [← ha 2 e]; exact h11 e
theorem D12C.start (hs : St v g A l cap u) (hg : w.grownBy u (some g)) (hk : CellsAt u w.heap.size 45 zV) (hv : VolO u (w.heap.size + 1) z (.agg VC)) (hb : CellsAt u q 45 VC) : D12C w q v g A l cap z VC (fun _ => false) γ u.drew :=
 ⟨hs.drew, gb_drew hg, hk.drew, fun _ => hv, fun _ => hb.drew, hb.lt, fun e => by (cases e), fun e => by (cases e), fun e => by (cases e), fun e => by (cases e), fun e => by (cases e)⟩
theorem D12C.d8 (h : D12C w q v g A l cap z VC D γ u) {i : Nat} (hi : i = 0 ∨ i = 2 ∨ i = 3 ∨ i = 4) (hD : D i = false) : D 8 = false := by
 cases e : D 8 with
 | false => rfl
 | true =>
   obtain ⟨a, b, c, d, -⟩ := h.2.2.2.2.2.2.2.2.1 e
   rcases hi with rfl | rfl | rfl | rfl
   ·rw [a] at hD; cases hD
   ·rw [b] at hD; cases hD
   ·rw [c] at hD; cases hD
   ·rw [d] at hD; cases hD
theorem D12C.load0 (h : D12C w q v g A l cap z VC D γ u) (hD : D 0 = false) : D12C w q v g A l cap z VC (setD D 0) (setG γ 0 (.agg VC)) u := by
 have d8 := h.d8 (.inl rfl) hD
 obtain ⟨h1, h2, h3, h4, h5, h6, h7, h8, h9, h10, h11⟩ := h
 refine ⟨h1, h2, h3, fun _ => h4 d8, fun _ => h5 d8, h6, fun e => ?_, fun e => ?_, fun e => ?_, fun e => setG_self, fun e => ?_⟩
 ·rw [setD_ne (by omega)] at e; rw [setG_ne (by omega)]; exact h7 e
 ·rw [setD_ne (by omega)] at e; rw [setG_ne (by omega)]; exact h8 e
 ·rw [setD_ne (by omega), d8] at e; cases e
 ·rw [setD_ne (by omega)] at e; rw [setG_ne (by omega)]; exact h11 e
theorem D12C.load2 (h : D12C w q v g A l cap z VC D γ u) (hD : D 2 = false) : D12C w q v g A l cap z VC (setD D 2) (setG γ 2 (.agg VC)) u := by
 have d8 := h.d8 (.inr (.inl rfl)) hD
 obtain ⟨h1, h2, h3, h4, h5, h6, h7, h8, h9, h10, h11⟩ := h
 refine ⟨h1, h2, h3, fun _ => h4 d8, fun _ => h5 d8, h6, fun e => ?_, fun e => ?_, fun e => ?_, fun e => ?_, fun e => setG_self⟩
 ·rw [setD_ne (by omega)] at e; rw [setG_ne (by omega)]; exact h7 e
 ·rw [setD_ne (by omega)] at e; rw [setG_ne (by omega)]; exact h8 e
 ·rw [setD_ne (by omega), d8] at e; cases e
 ·rw [setD_ne (by omega)] at e; rw [setG_ne (by omega)]; exact h10 e
theorem D12C.draw (h : D12C w q v g A l cap z VC D γ u) (hD : D 3 = false) (hg0 : g < w.heap.size) (hq : w.heap.size < q) {kind a b c : Int} (hk : 1 ≤ kind ∧ kind ≤ 9) (ha : 0 ≤ a ∧ a ≤ 1048576) (hka : kind = 4 → a < z.trusts.length) (hs : St v g A l cap u') (hg : u.grownBy u' (some g)) :
    D12C w q v g A l cap z VC (setD D 3) (setG γ 3 (.agg #[.int .i64 kind, .int .i64 a, .int .i64 b, .int .i64 c])) u' := by
 have d8 := h.d8 (.inr (.inr (.inl rfl))) hD
 obtain ⟨h1, h2, h3, h4, h5, h6, h7, h8, h9, h10, h11⟩ := h
 refine ⟨hs, gb_trans h2 hg, h3.grown hg (by intro e; injection e; omega), fun _ => (h4 d8).out hg (by omega), fun _ => (h5 d8).grown hg (by intro e; injection e; omega), Nat.lt_of_lt_of_le h6 hg.size, fun e => ⟨kind, a, b, c, setG_self, hk, ha, hka⟩, fun e => ?_, fun e => ?_, fun e => ?_, fun e => ?_⟩
 ·rw [setD_ne (by omega)] at e; rw [setG_ne (by omega)]
  obtain ⟨y, cs, x, e1, e2, e3⟩ := h8 e
  exact ⟨y, cs, x, e1, e2, e3.out hg (by omega)⟩
 ·rw [setD_ne (by omega), d8] at e; cases e
 ·rw [setD_ne (by omega)] at e; rw [setG_ne (by omega)]; exact h10 e
 ·rw [setD_ne (by omega)] at e; rw [setG_ne (by omega)]; exact h11 e
theorem D12C.did (h : D12C w q v g A l cap z VC D γ u) (hD : D 4 = false) (hg0 : g < w.heap.size) (hq : w.heap.size < q) {y : VolN} {cs : Array Value} {x : Value} (hi : y.Inv) (hv : VolO u' u.heap.size y (.agg cs)) (hb : Below u.heap.size u u') :
    D12C w q v g A l cap z VC (setD D 4) (setG γ 4 (.tuple #[.agg cs, x])) u' := by
 have d8 := h.d8 (.inr (.inr (.inr rfl))) hD
 obtain ⟨h1, h2, h3, h4, h5, h6, h7, h8, h9, h10, h11⟩ := h
 refine ⟨h1.below hb (by omega), gb_trans h2 (below_gb hb _), h3.below hb (by omega), fun _ => (h4 d8).below hb, fun _ => (h5 d8).below hb h6, Nat.lt_of_lt_of_le h6 hb.size, fun e => ?_, fun e => ⟨y, cs, x, setG_self, hi, hv.mono (by omega)⟩, fun e => ?_, fun e => ?_, fun e => ?_⟩
 ·rw [setD_ne (by omega)] at e; rw [setG_ne (by omega)]; exact h7 e
 ·rw [setD_ne (by omega), d8] at e; cases e
 ·rw [setD_ne (by omega)] at e; rw [setG_ne (by omega)]; exact h10 e
 ·rw [setD_ne (by omega)] at e; rw [setG_ne (by omega)]; exact h11 e
theorem D12C.store (h : D12C w q v g A l cap z VC D γ u) (d0 : D 0 = true) (d2 : D 2 = true) (d3 : D 3 = true) (d4 : D 4 = true) (hg0 : g < w.heap.size) (hq : w.heap.size < q) {cs : Array Value} {x xx : Value} (he : γ 4 = .tuple #[.agg cs, x]) (hc : CellsAt u' q 45 cs) (hg : u.grownBy u' (some q)) :
    D12C w q v g A l cap z VC (setD D 8) (setG γ 8 xx) u' := by
 obtain ⟨h1, h2, h3, h4, h5, h6, h7, h8, h9, h10, h11⟩ := h
 refine ⟨h1.off hg (by omega), gb_put h2 hg (by omega), h3.grown hg (by intro e; injection e; omega), fun e => ?_, fun e => ?_, Nat.lt_of_lt_of_le h6 hg.size, fun e => ?_, fun e => ?_, fun e => ?_, fun e => ?_, fun e => ?_⟩
 ·rw [setD_self] at e; cases e
 ·rw [setD_self] at e; cases e
 ·rw [setG_ne (by omega)]; exact h7 d3
 ·rw [setG_ne (by omega)]
  obtain ⟨y, cs, x, e1, e2, e3⟩ := h8 d4
  exact ⟨y, cs, x, e1, e2, e3.out hg (by omega)⟩
 ·rw [setD_ne (by omega), setD_ne (by omega), setD_ne (by omega), setD_ne (by omega), setG_ne (by omega)]
  exact ⟨d0, d2, d3, d4, cs, x, he, hc⟩
 ·rw [setG_ne (by omega)]; exact h10 d0
 ·rw [setG_ne (by omega)]; exact h11 d2
end
def VolS (v w : World) (g : Nat) (A : Option Addr) (l : List Int) (cap : Nat) (e : Ending) (w' : World) : Prop :=
 ∃ (y : VolN) (cs : Array Value), e = .returned (.agg cs) ∧ y.Inv ∧ VolO w' w.heap.size y (.agg cs) ∧ St v g A l cap w' ∧ w.grownBy w' (some g)
set_option maxRecDepth 20000 in
set_option maxHeartbeats 8000000 in
theorem draw12_calls (v : World) (g : Nat) (A : Option Addr) (l : List Int) (cap : Nat) (w : World) (hn : l.length ≤ 4096) (h : St v g A l cap w) :
    Calls Tryz.prog 17 #[.pointer (some ⟨g, 0, none⟩)] w (VolS v w g A l cap) := by
 have HN := Lib.hid (show l.length ≤ maxLen by unfold maxLen; omega)
 have HL := h.2.lt
 have S0 := Lib.hid (h.alloc (.cells zV 45))
 have K0 := Lib.hid (CellsAt.new w 45 zV)
 have G0 := Lib.hid (gb_alloc (gb_refl w (some g)) (.cells zV 45))
 have hnl : (l.length : Int) ≤ 4096 := by omega
 clear hn h
 go_enter Tryz.func17, Tryz.ntmps17
 go_wp2_with fail
 refine (draw5p_calls v g A l cap _ HN.out S0.out).mono ?_; rintro e w1 ⟨key, u, zs, rfl, hp, r1, s1, g1⟩
 obtain ⟨QA, qc, hq, hqi, hqc⟩ := r1.reads_cap
 subst hq
 have S1 := Lib.hid s1
 have K1 := Lib.hid (K0.out.grown g1 (by intro e; injection e; omega))
 have G1 := Lib.hid (gb_trans G0.out g1)
 have QI := Lib.hid hqi
 have HP := Lib.hid hp
 have hz1 : w.heap.size < w1.heap.size := by have := g1.size; simp at this; omega
 clear s1 g1 r1 hqi hp S0 K0 G0
 go_wp2_with fail
 refine (formatted_calls key QA zs qc _ hqc QI.out HP.out).mono ?_; rintro e w2 ⟨cs, rfl, hv, hb⟩
 obtain ⟨y, hy⟩ : ∃ y, y = formatVol key zs := ⟨_, rfl⟩
 have HI := Lib.hid (show y.Inv by rw [hy]; exact formatVol_inv HP.out)
 rw [← hy] at hv
 clear hy
 obtain ⟨A', c', B', d', C', e', b', o', s', e1, -⟩ := hv.reads
 subst e1
 have hz2 : w1.heap.size ≤ w2.heap.size := hb.size
 have s2 := S1.out.below hb (show g < w1.heap.size by omega)
 have k2 := K1.out.below hb hz1
 have g2 := gb_blw G1.out (hb.mono (by omega))
 have v2 := hv.mono (show w.heap.size + 1 ≤ w1.heap.size by omega)
 have s3 := s2.alloc (.cells (vX y A' c' B' d' C' e' b' o' s') 45)
 have k3 := CellsAt.grown k2 (World.grownBy_alloc w2 (.cells (vX y A' c' B' d' C' e' b' o' s') 45) none) (by simp)
 have g3 := gb_alloc g2 (.cells (vX y A' c' B' d' C' e' b' o' s') 45)
 have v3 := v2.below ((Below.refl _ _).alloc (Nat.le_refl _) (.cells (vX y A' c' B' d' C' e' b' o' s') 45))
 have b3 := CellsAt.new w2 45 (vX y A' c' B' d' C' e' b' o' s')
 clear hv hb s2 k2 g2 v2 S1 K1 G1
 go_upto_region 2 with fail
 generalize World.alloc w2 _ = w3 at s3 k3 g3 v3 b3 ⊢
 have S3 := Lib.hid s3
 have K3 := Lib.hid k3
 have G3 := Lib.hid g3
 have V3 := Lib.hid v3
 have B3 := Lib.hid b3
 obtain ⟨i0, h0, hi0, hcur⟩ := s3.2.2
 have cu : ∀ i, w3.cell? ⟨g, i, none⟩ = #[.slice A l.length cap, .int .i64 i0, .int .i64 h0][i]? := hcur.cell
 have hwl : IntKind.i64.wrap (2 + (l.length : Int)) = 2 + l.length := IntWalk.i64_in _ (by omega)
 clear s3 k3 g3 v3 b3 hcur
 go_region_with (first
  | (go_at_call 18; refine (below_st v g A l cap 30 _ HN.out S3.out.drew (by omega)).mono ?_; rintro e wx ⟨n0, rfl, ⟨n00, n01⟩, sx, gx⟩; have hcx := sx.2.2; obtain ⟨i1, h1, hi1, hc1⟩ := hcx; have cx : ∀ i, wx.cell? ⟨g, i, none⟩ = #[.slice A l.length cap, .int .i64 i1, .int .i64 h1][i]? := hc1.cell; have SX := Lib.hid sx; have KX := Lib.hid (K3.out.drew.grown gx (by intro e; injection e; omega)); have GX := Lib.hid (gb_trans (gb_drew G3.out) gx); have VX := Lib.hid (VolO.out (show VolO w3.drew (w.heap.size + 1) y _ from V3.out) gx (by omega)); have BX := Lib.hid (B3.out.drew.grown gx (by intro e; injection e; omega)); clear sx gx hc1)
  | (go_at_call 35; refine (min_calls _ _ _).mono ?_; rintro e w' ⟨rfl, rfl⟩))
 all_goals
  obtain ⟨m, hm⟩ : ∃ m : Nat, min (2 + (l.length : Int)) n0 = m := ⟨(min (2 + (l.length : Int)) n0).toNat, by omega⟩
  rw [hm]
  have R0 := Lib.hid (show D12Rel w w2.heap.size v g A l cap m y wx from ⟨by omega, HI.out, A', c', B', d', C', e', b', o', s', BX.out, KX.out, VX.out, SX.out, GX.out⟩)
  have hl2 : w2.heap.size < wx.heap.size := BX.out.lt
  clear cu cx hm HI SX KX GX VX BX S3 K3 G3 V3 B3 QI hqc HP hwl hi0 n00 n01 hi1
  go_simp
  go_wp2_with fail
  trace_state
  go_loopw [4] (fun i wr => ∃ (n : Nat) (y : VolN), i = .int .i64 n ∧ D12Rel w w2.heap.size v g A l cap n y wr) (fun i _ => (intOf i).toNat)
  case atStart => exact ⟨m, y, rfl, R0.out⟩
  case round =>
   obtain ⟨n, z, rfl, hn9, hz, A1, c1, B1, k1, C1, e1, b1, o1, t1, hb, hk, hv, hs, hg⟩ := hrel
   have h6 : ∀ i, wr.cell? ⟨w2.heap.size, i, none⟩ = (vX z A1 c1 B1 k1 C1 e1 b1 o1 t1)[i]? := hb.cell
   have k6 : ∀ i, wr.cell? ⟨w.heap.size, i, none⟩ = zV[i]? := hk.cell
   have f6 := hb.frozen
   have f7 := hk.frozen
   rcases n with _ | n
   ·have HK := Lib.hid hk
    have HVO := Lib.hid hv
    have SO := Lib.hid hs
    have GO := Lib.hid hg
    have HZ := Lib.hid hz
    clear hk hv hs hg hz hb
    go_wp2_with fail
    have hvp := vol_put (x0 := .int .i64 z.key) (x1 := .slice A1 z.counts.length c1) (x2 := .slice B1 z.trusts.length k1) (x3 := .slice C1 z.cells.length e1) (x4 := .slice (some ⟨b1, o1, none⟩) 2 t1) (x5 := .int .i64 z.count) HK.out
    generalize World.setCell _ _ _ = w9 at hvp ⊢
    have d0 := hvp.1.cell 0
    have d1 := hvp.1.cell 1
    have d2 := hvp.1.cell 2
    have d3 := hvp.1.cell 3
    have d4 := hvp.1.cell 4
    have d5 := hvp.1.cell 5
    simp only [List.getElem?_toArray, List.getElem?_cons_zero, List.getElem?_cons_succ] at d0 d1 d2 d3 d4 d5
    exact bodyPost_ret (v := .agg (vX z A1 c1 B1 k1 C1 e1 b1 o1 t1)) (by simp [results, Tryz.results17, go_sem, d0, d1, d2, d3, d4, d5]) rfl ⟨z, _, rfl, HZ.out, (HVO.out.out hvp.2 (by omega)).mono (by omega), SO.out.off hvp.2 HL, gb_put GO.out hvp.2 (Nat.le_refl _)⟩
   ·have hd : (0 : Int) < ((n + 1 : Nat) : Int) := by omega
    have HK := Lib.hid hk
    have HB := Lib.hid hb
    have HVO := Lib.hid hv
    have SO := Lib.hid hs
    have GO := Lib.hid hg
    have HZ := Lib.hid hz
    clear hk hv hs hg hz hb
    obtain ⟨q1, q2, q3, q4⟩ : z.counts.length ≤ 1048576 ∧ z.trusts.length ≤ 1048576 ∧ z.cells.length ≤ 1048576 ∧ z.trusts.length = z.counts.length := by
     have a := HZ.out.short
     unfold VolN.Short at a
     have b := HZ.out.fit.1
     omega
    have q5 := HZ.out.pos
    have hlr : w2.heap.size < wr.heap.size := HB.out.lt
    go_upto_region 5 with fail
    have hq2 : w.heap.size < w2.heap.size := by omega
    have C0 := Lib.hid (fun γ => D12C.start (γ := γ) SO.out GO.out HK.out HVO.out HB.out)
    refine wp_region_free [true, false, true, true, true, false, false, false, true] (ShL [(0, fun v => v = .agg (vX z A1 c1 B1 k1 C1 e1 b1 o1 t1)), (2, fun v => v = .agg (vX z A1 c1 B1 k1 C1 e1 b1 o1 t1)), (3, fun v => ∃ kind a b c : Int, v = .agg #[.int .i64 kind, .int .i64 a, .int .i64 b, .int .i64 c]), (4, fun v => ∃ (a0 : Int) (A0 : Option Addr) (b0 c0 : Nat) (A1 : Option Addr) (b1 c1 : Nat) (A2 : Option Addr) (b2 c2 : Nat) (A3 : Option Addr) (b3 c3 : Nat) (a4 x0 x1 : Int), v = .tuple #[.agg #[.int .i64 a0, .slice A0 b0 c0, .slice A1 b1 c1, .slice A2 b2 c2, .slice A3 b3 c3, .int .i64 a4], .agg (cA x0 x1)])]) (fun D γ u => D12C w w2.heap.size v g A l cap z (vX z A1 c1 B1 k1 C1 e1 b1 o1 t1) D γ u) (by kernel_rfl) (by kernel_rfl) (fun γ => by kernel_rfl) (fun D γ γ' w ha h => h.loc ha) (ShL.inh _ ?inh) (fun γ => C0.out γ) (fun γ hγ => ?_)
    case inh =>
     intro y hy
     simp only [List.mem_cons, List.not_mem_nil, or_false] at hy
     rcases hy with rfl | rfl | rfl | rfl
     ·exact ⟨_, rfl⟩
     ·exact ⟨_, rfl⟩
     ·exact ⟨_, 0, 0, 0, 0, rfl⟩
     ·exact ⟨_, 0, none, 0, 0, none, 0, 0, none, 0, 0, none, 0, 0, 0, 0, 0, rfl⟩
    have e0 : γ 0 = .agg (vX z A1 c1 B1 k1 C1 e1 b1 o1 t1) := hγ 0 rfl
    have e2 : γ 2 = .agg (vX z A1 c1 B1 k1 C1 e1 b1 o1 t1) := hγ 2 rfl
    obtain ⟨kd, na, nb, nc, e3⟩ : ∃ kind a b c : Int, γ 3 = .agg #[.int .i64 kind, .int .i64 a, .int .i64 b, .int .i64 c] := hγ 3 rfl
    obtain ⟨p0, P0, r0, s0, P1, r1, s1, P2, r2, s2, P3, r3, s3, p4, x0, x1, e4⟩ : ∃ (a0 : Int) (A0 : Option Addr) (b0 c0 : Nat) (A1 : Option Addr) (b1 c1 : Nat) (A2 : Option Addr) (b2 c2 : Nat) (A3 : Option Addr) (b3 c3 : Nat) (a4 x0 x1 : Int), γ 4 = .tuple #[.agg #[.int .i64 a0, .slice A0 b0 c0, .slice A1 b1 c1, .slice A2 b2 c2, .slice A3 b3 c3, .int .i64 a4], .agg (cA x0 x1)] := hγ 4 rfl
    have e8 : γ 8 = undef := hγ 8 rfl
    clear hγ C0
    apply Exists.intro
    refine ⟨fun D => ?_, ?_, ?_⟩
    ·simp only [hushL, cond_true, cond_false, Nat.reduceAdd, e0, e2, e3, e4, e8]
     iterate 9 (first
      | go_big_quiet_skip
      | (go_big_quiet_want
         go_big_quiet_op
         first
          | go_big_quiet_on
          | (apply Exists.intro
             refine ⟨fun u hu => ?_, ?_⟩
             ·first
                | with_reducible rfl
                | (go_simp; first | done | with_reducible rfl)
             go_big_quiet_on)))
     exact wpQuiet_nil rfl
    ·simp only [freeOk, Nat.reduceAdd]
     refine ⟨fun D u hD hd hu => ?_, fun D u hD hd hu => ?_, fun D u hD hd hu => ?_, fun D u hD hd hu => ?_, fun D u hD hd hu => ?_, trivial⟩
     ·exact steps_load (hu.2.2.2.2.1 (hu.d8 (.inl rfl) hD)) rfl rfl Tryz.underlying45 rfl (by kernel_rfl) ⟨rfl, hu.load0 hD⟩
     ·exact steps_load (hu.2.2.2.2.1 (hu.d8 (.inr (.inl rfl)) hD)) rfl rfl Tryz.underlying45 rfl (by kernel_rfl) ⟨rfl, hu.load2 hD⟩
     ·exact steps_call ((l14Draw_st v g A l cap u HN.out hu.1 z.key z.count A1 B1 C1 _ z.counts.length c1 z.trusts.length k1 z.cells.length e1 2 t1 q2 q3 q5).mono fun e w' ⟨kind, a, b, c, he, hkd, ha, hka, sy, gy⟩ => ⟨_, he, ⟨_, _, _, _, rfl⟩, hu.draw hD HL hq2 hkd ha hka sy gy⟩) rfl rfl rfl rfl (by kernel_rfl)
     ·have d3 := hd { on := 3, ground := Ground.data } (by simp) rfl rfl
      have d8 := hu.d8 (.inr (.inr (.inr rfl))) hD
      obtain ⟨kind, a, b, c, ee, hkd, ha, hka⟩ := hu.2.2.2.2.2.2.1 d3
      rw [e3] at ee
      simp only [Value.agg.injEq, Array.mk.injEq, List.cons.injEq, Value.int.injEq, true_and, and_true] at ee
      obtain ⟨rfl, rfl, rfl, rfl⟩ := ee
      exact steps_call ((l14Do_r z _ u HZ.out (hu.2.2.2.1 d8).reads kd na nb nc hkd.1 hkd.2 ⟨by omega, by omega⟩ (fun h4 => ⟨ha.1, by have := hka h4; omega⟩)).mono fun e w' ⟨cs, he, hv5, hb5⟩ => ⟨_, he, by obtain ⟨A', c', B', d', C', e', b', o', s', e1q, -⟩ := hv5.reads; rw [e1q]; exact ⟨_, _, _, _, _, _, _, _, _, _, _, _, _, _, _, _, rfl⟩, hu.did hD HL hq2 (doVol_inv HZ.out kd na nb nc) hv5 hb5⟩) rfl rfl rfl rfl (by kernel_rfl)
     ·have d0 := hd { on := 0, ground := Ground.phase } (by simp) rfl rfl
      have d2 := hd { on := 2, ground := Ground.phase } (by simp) rfl rfl
      have d3 := hd { on := 3, ground := Ground.phase } (by simp) rfl rfl
      have d4 := hd { on := 4, ground := Ground.phase } (by simp) rfl rfl
      exact steps_store (hu.2.2.2.2.1 hD) rfl rfl rfl (by kernel_rfl) (by simp) (by simp [Value.oneCell']) (fun w' hc hg => ⟨rfl, hu.store d0 d2 d3 d4 HL hq2 e4 hc hg⟩)
    ·intro D uf hD hu
     obtain ⟨h1, h2, h3, h4, h5, h6, h7, h8, h9, h10, h11⟩ := hu
     obtain ⟨y2, cs, x, e5, hi5, hv5⟩ := h8 (hD 4 (by simp) rfl)
     obtain ⟨-, -, -, -, cs', x', e6, hc6⟩ := h9 (hD 8 (by simp) rfl)
     obtain ⟨A', c', B', d', C', e', b', o', s', e1q, -⟩ := hv5.reads
     injection e1q with e1q
     rw [e5] at e6
     injection e6 with e6
     simp only [Array.mk.injEq, List.cons.injEq, Value.agg.injEq, and_true] at e6
     obtain ⟨e6, -⟩ := e6
     subst e6
     subst e1q
     have HR := Lib.hid (show D12Rel w w2.heap.size v g A l cap n y2 uf from ⟨by omega, hi5, A', c', B', d', C', e', b', o', s', hc6, h3, hv5.mono (by omega), h1, h2⟩)
     clear h1 h2 h3 h4 h5 h6 h7 h8 h9 h10 h11 hi5 hv5 hc6 e4 e5 e0 e2 e3 e8 hD
     clear HK HB HVO SO GO HZ h6 k6 f6 f7
     go_simp
     go_wp2_with fail
     go_roundw
     case rel => exact ⟨n, y2, by go_num, HR.out⟩
     case measure => simp [intOf]
def KG (b v : World) (g : Nat) (A : Option Addr) (l : List Int) (cap : Nat) (L : List Box) (u : World) : Prop :=
 b.grownBy u (some g) ∧ St v g A l cap u ∧ g < b.heap.size ∧ ∀ x ∈ L, b.heap.size ≤ x.1 ∧ CellsAt u x.1 x.2.1 x.2.2
namespace KG
variable {b v u u' : World} {g k p : Nat} {A : Option Addr} {l : List Int} {cap : Nat} {L : List Box} {t : TypeId} {cs cs' : Array Value}
theorem start (h : St v g A l cap b) : KG b v g A l cap [] b := ⟨gb_refl _ _, h, h.2.lt, fun x hx => by cases hx⟩
theorem step (h : KG b v g A l cap L u) (hs : St v g A l cap u') (hg : u.grownBy u' (some g)) : KG b v g A l cap L u' :=
 ⟨gb_trans h.1 hg, hs, h.2.2.1, fun x hx => ⟨(h.2.2.2 x hx).1, (h.2.2.2 x hx).2.grown hg (by intro e; injection e with e; have h1 := (h.2.2.2 x hx).1; have h2 := h.2.2.1; omega)⟩⟩
theorem below (h : KG b v g A l cap L u) (hb : Below u.heap.size u u') : KG b v g A l cap L u' :=
 ⟨gb_blw h.1 (hb.mono h.1.size), h.2.1.below hb (Nat.lt_of_lt_of_le h.2.2.1 h.1.size), h.2.2.1, fun x hx => ⟨(h.2.2.2 x hx).1, (h.2.2.2 x hx).2.below hb (h.2.2.2 x hx).2.lt⟩⟩
theorem drew (h : KG b v g A l cap L u) : KG b v g A l cap L u.drew := ⟨gb_drew h.1, h.2.1.drew, h.2.2.1, fun x hx => ⟨(h.2.2.2 x hx).1, (h.2.2.2 x hx).2.drew⟩⟩
end KG
def KB (w v : World) (g : Nat) (A : Option Addr) (l : List Int) (cap : Nat) (L : List Box) (u : World) : Prop :=
 Below w.heap.size w u ∧ St v g A l cap u ∧ w.heap.size ≤ g ∧ ∀ x ∈ L, (w.heap.size ≤ x.1 ∧ x.1 ≠ g) ∧ CellsAt u x.1 x.2.1 x.2.2
namespace KB
variable {w v u u' : World} {g k p : Nat} {A : Option Addr} {l : List Int} {cap : Nat} {L : List Box} {t : TypeId} {cs cs' : Array Value}
theorem step (h : KB w v g A l cap L u) (hs : St v g A l cap u') (hg : u.grownBy u' (some g)) : KB w v g A l cap L u' :=
 ⟨bgb h.1 hg h.1.size h.2.2.1, hs, h.2.2.1, fun x hx => ⟨(h.2.2.2 x hx).1, (h.2.2.2 x hx).2.grown hg (by intro e; injection e with e; exact (h.2.2.2 x hx).1.2 e)⟩⟩
theorem below (h : KB w v g A l cap L u) (hb : Below u.heap.size u u') : KB w v g A l cap L u' :=
 ⟨h.1.trans (hb.mono h.1.size), h.2.1.below hb h.2.1.2.lt, h.2.2.1, fun x hx => ⟨(h.2.2.2 x hx).1, (h.2.2.2 x hx).2.below hb (h.2.2.2 x hx).2.lt⟩⟩
theorem drew (h : KB w v g A l cap L u) : KB w v g A l cap L u.drew := ⟨h.1.drew, h.2.1.drew, h.2.2.1, fun x hx => ⟨(h.2.2.2 x hx).1, (h.2.2.2 x hx).2.drew⟩⟩
theorem put1 (h : KB w v g A l cap L u) (p : Nat) (t : TypeId) (cs : Array Value) (hp : u.heap.size = p) : KB w v g A l cap ((p, t, cs) :: L) (u.alloc (.cells cs t)) := by
 subst hp
 have h' := h.below ((Below.refl _ _).alloc (Nat.le_refl _) (.cells cs t))
 refine ⟨h'.1, h'.2.1, h'.2.2.1, fun x hx => ?_⟩
 rcases List.mem_cons.1 hx with rfl | hx
 ·exact ⟨⟨h.1.size, Nat.ne_of_gt h.2.1.2.lt⟩, CellsAt.new u t cs⟩
 ·exact h'.2.2.2 x hx
theorem rd (h : KB w v g A l cap L u) : Rd u L := Rd.of fun x hx => (h.2.2.2 x hx).2
theorem at_ (h : KB w v g A l cap L u) (hm : (p, t, cs) ∈ L) : CellsAt u p t cs := (h.2.2.2 _ hm).2
theorem lt (h : KB w v g A l cap L u) {x : Box} (hx : x ∈ L) : x.1 < u.heap.size := (h.2.2.2 x hx).2.lt
end KB
def RowB (u : World) (lo hi : Nat) (Q : Option Addr) (zs : List Int) (c : Nat) : Prop := Row u lo 2 (.slice Q zs.length c) zs ∧ ∀ j, (Value.slice Q zs.length c).ownBlock = some j → j < hi
namespace RowB
variable {u u' : World} {lo hi p : Nat} {Q : Option Addr} {zs : List Int} {c : Nat}
theorem of (h : Row u lo 2 (.slice Q zs.length c) zs) : RowB u lo u.heap.size Q zs c := ⟨h, fun j e => (h.1.lt j e).2⟩
theorem grown (h : RowB u lo hi Q zs c) (hg : u.grownBy u' (some p)) (hp : p < lo ∨ hi ≤ p) : RowB u' lo hi Q zs c := by
 refine ⟨⟨h.1.1.kept hg ?_, h.1.2⟩, h.2⟩
 cases e : (Value.slice Q zs.length c).ownBlock with
 | none => exact .inl rfl
 | some j =>
   refine .inr (by intro e2; injection e2 with e2; have h1 := h.2 j e; have h2 := (h.1.1.lt j e).1; omega)
theorem below (h : RowB u lo hi Q zs c) (hb : Below u.heap.size u u') : RowB u' lo hi Q zs c := by
 refine ⟨⟨h.1.1.kept (below_gb hb none) ?_, h.1.2⟩, h.2⟩
 cases e : (Value.slice Q zs.length c).ownBlock with
 | none => exact .inl rfl
 | some j => exact .inr (by simp)
theorem drew (h : RowB u lo hi Q zs c) : RowB u.drew lo hi Q zs c := ⟨⟨h.1.1.drew, h.1.2⟩, h.2⟩
end RowB
theorem plan_put {w1 : World} {r : Nat} {t : TypeId} {x0 x1 y0 y1 : Value} (hk : CellsAt w1 r t #[y0, y1]) :
    CellsAt ((w1.setCell ⟨r, 0, none⟩ x0).setCell ⟨r, 1, none⟩ x1) r t #[x0, x1] ∧ w1.grownBy ((w1.setCell ⟨r, 0, none⟩ x0).setCell ⟨r, 1, none⟩ x1) (some r) :=
 ⟨(hk.set_ 0 x0).set_ 1 x1, gb_set (gb_set (gb_refl w1 (some r)) 0 x0) 1 x1⟩
namespace TrB
variable {u u' : World} {lo hi lo' hi' p : Nat} {B : Option Addr} {L : List Tru}
end TrB
theorem own_apart {u : World} {b b' t t' sz sz' n n' g : Nat} {v : Value} {xs xs' : List Value} {c' : Nat} (h : u.ownsRow b t sz v n xs) (h' : u.ownsRow b' t' sz' (.slice (some ⟨g, 0, none⟩) n' c') n' xs') (ht : t ≠ t') : v.ownBlock ≠ some g := by
 rcases h.2 with ⟨rfl, _⟩ | ⟨k, cap, cur, rfl, _, hk, _⟩
 ·simp [Value.ownBlock]
 ·rcases h'.2 with ⟨e, _⟩ | ⟨k', cap', cur', e, _, hk', _⟩
  ·cases e
  ·simp only [Value.slice.injEq, Option.some.injEq, Addr.mk.injEq] at e
   obtain ⟨⟨rfl, -, -⟩, -⟩ := e
   intro e2
   have e3 : k = g := by simpa [Value.ownBlock] using e2
   subst e3
   rw [hk] at hk'
   injection hk' with hk'
   injection hk' with h1 h2 h3
   exact ht h2
section
variable {v w u u' : World} {g : Nat} {A : Option Addr} {l : List Int} {cap bv bt bc : Nat} {VC : Array Value} {Q : Option Addr} {zs : List Int} {c : Nat} {t : Tru} {ct cv key : Int}
end
theorem i64_wrap (z : Int) : I64 (IntKind.i64.wrap z) := by
 rw [IntWalk.i64_left]
 unfold I64 wrap64
 omega
namespace QBox
variable {w w' : World} {base p g : Nat} {key : Int} {v : Value} {zs : List Int}
end QBox
section
variable {v w u u' : World} {g p q : Nat} {A : Option Addr} {l : List Int} {cap : Nat} {key : Int} {Q : Option Addr} {zs : List Int} {c : Nat} {t : Tru}
end
section
variable {v w u u' : World} {g : Nat} {A : Option Addr} {l : List Int} {cap bv gt : Nat} {VC : Array Value} {Q : Option Addr} {zs : List Int} {c : Nat} {Lr : List Tru} {d : Nat} {key : Int}
end
theorem Row.ints {u : World} {base : Nat} {Q : Option Addr} {zs : List Int} {c : Nat} (h : Row u base 2 (.slice Q zs.length c) zs) : Ints u .i64 u.heap.size Q zs := by
 obtain ⟨Q', c', e, hI⟩ := h.reads
 injection e with e1 e2 e3
 subst e1
 exact hI
theorem i64_w64 (z : Int) : I64 (wrap64 z) := by
 have h := i64_wrap z
 rwa [IntWalk.i64_left] at h
section
variable {v w u u' : World} {g : Nat} {A : Option Addr} {l : List Int} {cap bp bs : Nat} {key : Int} {Q : Option Addr} {zs : List Int} {c : Nat} {cnt : Int} {B : Option Addr} {L : List Tru} {tc : Nat} {mac : Int}
end
end Go.Proofs.YtjbnknccnhdapaaGreat.Mx

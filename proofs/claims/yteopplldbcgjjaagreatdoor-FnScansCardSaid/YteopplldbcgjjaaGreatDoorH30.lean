import Derived.Test.YteopplldbcgjjaaGreatDoorH26
import Derived.Test.YteopplldbcgjjaaGreatDoorH27
import Derived.Test.YteopplldbcgjjaaGreatDoorH29
import Derived.Test.YteopplldbcgjjaaGreatDoorH28
import Derived.Test.YteopplldbcgjjaaGreatDoorH02
import Derived.Test.YteopplldbcgjjaaGreatDoorH04
namespace Go.Proofs.YteopplldbcgjjaaGreatDoor.Mx
open Go.ChangeShapes Go.WideShapes Go.ChangeAt Go.RowKit
set_option linter.unusedVariables false
open Go.Lib (hid)
set_option maxHeartbeats 64000000
theorem St.off {v w w' : World} {g p : Nat} {A : Option Addr} {l : List Int} {cap : Nat} (h : St v g A l cap w) (hb : w.grownBy w' (some p)) (hg : g < p) : St v g A l cap w' :=
 ⟨bgb h.1 hb (Nat.le_of_lt h.2.lt) (Nat.le_of_lt hg), h.2.gb hb hg⟩
theorem gb_put {a b c : World} {g p : Nat} (h : a.grownBy b (some g)) (h2 : b.grownBy c (some p)) (hp : a.heap.size ≤ p) : a.grownBy c (some g) :=
 ⟨h2.os.trans h.os, h2.tape.trans h.tape, h2.output.trans h.output, Nat.le_trans h.size h2.size, fun k hk hr => (h2.block k (Nat.lt_of_lt_of_le hk h.size) (by intro e; injection e with e; omega)).trans (h.block k hk hr)⟩
def D12Rel (w : World) (q : Nat) (v : World) (g : Nat) (A : Option Addr) (l : List Int) (cap : Nat) (n : Nat) (y : VolN) (wr : World) : Prop :=
 n ≤ 9000 ∧ y.Inv ∧ ∃ A1 c1 B1 k1 C1 e1 b1 o1 t1, CellsAt wr q 114 (vX y A1 c1 B1 k1 C1 e1 b1 o1 t1) ∧ CellsAt wr w.heap.size 114 zV ∧ VolO wr (w.heap.size + 1) y (.agg (vX y A1 c1 B1 k1 C1 e1 b1 o1 t1)) ∧ St v g A l cap wr ∧ w.grownBy wr (some g)
def D12C (w : World) (q : Nat) (v : World) (g : Nat) (A : Option Addr) (l : List Int) (cap : Nat) (z : VolN) (VC : Array Value) (D : Nat → Bool) (γ : Nat → Value) (u : World) : Prop :=
 St v g A l cap u ∧ w.grownBy u (some g) ∧ CellsAt u w.heap.size 114 zV ∧ (D 8 = false → VolO u (w.heap.size + 1) z (.agg VC)) ∧ (D 8 = false → CellsAt u q 114 VC) ∧ q < u.heap.size ∧
 (D 3 = true → ∃ kind a b c : Int, γ 3 = .agg #[.int .i64 kind, .int .i64 a, .int .i64 b, .int .i64 c] ∧ (1 ≤ kind ∧ kind ≤ 9) ∧ (0 ≤ a ∧ a ≤ 1048576) ∧ (kind = 4 → a < z.trusts.length)) ∧
 (D 4 = true → ∃ (y : VolN) (cs : Array Value) (x : Value), γ 4 = .tuple #[.agg cs, x] ∧ y.Inv ∧ VolO u (q + 1) y (.agg cs)) ∧
 (D 8 = true → D 0 = true ∧ D 2 = true ∧ D 3 = true ∧ D 4 = true ∧ ∃ (cs : Array Value) (x : Value), γ 4 = .tuple #[.agg cs, x] ∧ CellsAt u q 114 cs) ∧
 (D 0 = true → γ 0 = .agg VC) ∧ (D 2 = true → γ 2 = .agg VC)
section
variable {w v u u' : World} {q g : Nat} {A : Option Addr} {l : List Int} {cap : Nat} {z : VolN} {VC : Array Value} {D : Nat → Bool} {γ γ' : Nat → Value}
theorem D12C.loc (ha : ∀ i, D i = true → γ i = γ' i) (h : D12C w q v g A l cap z VC D γ u) : D12C w q v g A l cap z VC D γ' u := by
 obtain ⟨h1, h2, h3, h4, h5, h6, h7, h8, h9, h10, h11⟩ := h
 refine ⟨h1, h2, h3, h4, h5, h6, fun e => ?_, fun e => ?_, fun e => ?_, fun e => ?_, fun e => ?_⟩
 ·rw [← ha 3 e]; exact h7 e
 ·rw [← ha 4 e]; exact h8 e
 ·obtain ⟨a, b, c, d, k⟩ := h9 e
  rw [← ha 4 d]; exact ⟨a, b, c, d, k⟩
 ·rw [← ha 0 e]; exact h10 e
 ·rw [← ha 2 e]; exact h11 e
theorem D12C.start (hs : St v g A l cap u) (hg : w.grownBy u (some g)) (hk : CellsAt u w.heap.size 114 zV) (hv : VolO u (w.heap.size + 1) z (.agg VC)) (hb : CellsAt u q 114 VC) : D12C w q v g A l cap z VC (fun _ => false) γ u.drew :=
 ⟨hs.drew, gb_drew hg, hk.drew, fun _ => hv, fun _ => hb.drew, hb.lt, fun e => by (cases e), fun e => by (cases e), fun e => by (cases e), fun e => by (cases e), fun e => by (cases e)⟩
theorem D12C.d8 (h : D12C w q v g A l cap z VC D γ u) {i : Nat} (hi : i = 0 ∨ i = 2 ∨ i = 3 ∨ i = 4) (hD : D i = false) : D 8 = false := by
 cases e : D 8 with
 | false => rfl
 | true =>
   obtain ⟨a, b, c, d, -⟩ := h.2.2.2.2.2.2.2.2.1 e
   rcases hi with rfl | rfl | rfl | rfl
   ·rw [a] at hD; cases hD
   ·rw [b] at hD; cases hD
   ·rw [c] at hD; cases hD
   ·rw [d] at hD; cases hD
theorem D12C.load0 (h : D12C w q v g A l cap z VC D γ u) (hD : D 0 = false) : D12C w q v g A l cap z VC (setD D 0) (setG γ 0 (.agg VC)) u := by
 have d8 := h.d8 (.inl rfl) hD
 obtain ⟨h1, h2, h3, h4, h5, h6, h7, h8, h9, h10, h11⟩ := h
 refine ⟨h1, h2, h3, fun _ => h4 d8, fun _ => h5 d8, h6, fun e => ?_, fun e => ?_, fun e => ?_, fun e => setG_self, fun e => ?_⟩
 ·rw [setD_ne (by omega)] at e; rw [setG_ne (by omega)]; exact h7 e
 ·rw [setD_ne (by omega)] at e; rw [setG_ne (by omega)]; exact h8 e
 ·rw [setD_ne (by omega), d8] at e; cases e
 ·rw [setD_ne (by omega)] at e; rw [setG_ne (by omega)]; exact h11 e
theorem D12C.load2 (h : D12C w q v g A l cap z VC D γ u) (hD : D 2 = false) : D12C w q v g A l cap z VC (setD D 2) (setG γ 2 (.agg VC)) u := by
 have d8 := h.d8 (.inr (.inl rfl)) hD
 obtain ⟨h1, h2, h3, h4, h5, h6, h7, h8, h9, h10, h11⟩ := h
 refine ⟨h1, h2, h3, fun _ => h4 d8, fun _ => h5 d8, h6, fun e => ?_, fun e => ?_, fun e => ?_, fun e => ?_, fun e => setG_self⟩
 ·rw [setD_ne (by omega)] at e; rw [setG_ne (by omega)]; exact h7 e
 ·rw [setD_ne (by omega)] at e; rw [setG_ne (by omega)]; exact h8 e
 ·rw [setD_ne (by omega), d8] at e; cases e
 ·rw [setD_ne (by omega)] at e; rw [setG_ne (by omega)]; exact h10 e
theorem D12C.draw (h : D12C w q v g A l cap z VC D γ u) (hD : D 3 = false) (hg0 : g < w.heap.size) (hq : w.heap.size < q) {kind a b c : Int} (hk : 1 ≤ kind ∧ kind ≤ 9) (ha : 0 ≤ a ∧ a ≤ 1048576) (hka : kind = 4 → a < z.trusts.length) (hs : St v g A l cap u') (hg : u.grownBy u' (some g)) :
    D12C w q v g A l cap z VC (setD D 3) (setG γ 3 (.agg #[.int .i64 kind, .int .i64 a, .int .i64 b, .int .i64 c])) u' := by
 have d8 := h.d8 (.inr (.inr (.inl rfl))) hD
 obtain ⟨h1, h2, h3, h4, h5, h6, h7, h8, h9, h10, h11⟩ := h
 refine ⟨hs, gb_trans h2 hg, h3.grown hg (by intro e; injection e; omega), fun _ => (h4 d8).out hg (by omega), fun _ => (h5 d8).grown hg (by intro e; injection e; omega), Nat.lt_of_lt_of_le h6 hg.size, fun e => ⟨kind, a, b, c, setG_self, hk, ha, hka⟩, fun e => ?_, fun e => ?_, fun e => ?_, fun e => ?_⟩
 ·rw [setD_ne (by omega)] at e; rw [setG_ne (by omega)]
  obtain ⟨y, cs, x, e1, e2, e3⟩ := h8 e
  exact ⟨y, cs, x, e1, e2, e3.out hg (by omega)⟩
 ·rw [setD_ne (by omega), d8] at e; cases e
 ·rw [setD_ne (by omega)] at e; rw [setG_ne (by omega)]; exact h10 e
 ·rw [setD_ne (by omega)] at e; rw [setG_ne (by omega)]; exact h11 e
theorem D12C.did (h : D12C w q v g A l cap z VC D γ u) (hD : D 4 = false) (hg0 : g < w.heap.size) (hq : w.heap.size < q) {y : VolN} {cs : Array Value} {x : Value} (hi : y.Inv) (hv : VolO u' u.heap.size y (.agg cs)) (hb : Below u.heap.size u u') :
    D12C w q v g A l cap z VC (setD D 4) (setG γ 4 (.tuple #[.agg cs, x])) u' := by
 have d8 := h.d8 (.inr (.inr (.inr rfl))) hD
 obtain ⟨h1, h2, h3, h4, h5, h6, h7, h8, h9, h10, h11⟩ := h
 refine ⟨h1.below hb (by omega), gb_trans h2 (below_gb hb _), h3.below hb (by omega), fun _ => (h4 d8).below hb, fun _ => (h5 d8).below hb h6, Nat.lt_of_lt_of_le h6 hb.size, fun e => ?_, fun e => ⟨y, cs, x, setG_self, hi, hv.mono (by omega)⟩, fun e => ?_, fun e => ?_, fun e => ?_⟩
 ·rw [setD_ne (by omega)] at e; rw [setG_ne (by omega)]; exact h7 e
 ·rw [setD_ne (by omega), d8] at e; cases e
 ·rw [setD_ne (by omega)] at e; rw [setG_ne (by omega)]; exact h10 e
 ·rw [setD_ne (by omega)] at e; rw [setG_ne (by omega)]; exact h11 e
theorem D12C.store (h : D12C w q v g A l cap z VC D γ u) (d0 : D 0 = true) (d2 : D 2 = true) (d3 : D 3 = true) (d4 : D 4 = true) (hg0 : g < w.heap.size) (hq : w.heap.size < q) {cs : Array Value} {x xx : Value} (he : γ 4 = .tuple #[.agg cs, x]) (hc : CellsAt u' q 114 cs) (hg : u.grownBy u' (some q)) :
    D12C w q v g A l cap z VC (setD D 8) (setG γ 8 xx) u' := by
 obtain ⟨h1, h2, h3, h4, h5, h6, h7, h8, h9, h10, h11⟩ := h
 refine ⟨h1.off hg (by omega), gb_put h2 hg (by omega), h3.grown hg (by intro e; injection e; omega), fun e => ?_, fun e => ?_, Nat.lt_of_lt_of_le h6 hg.size, fun e => ?_, fun e => ?_, fun e => ?_, fun e => ?_, fun e => ?_⟩
 ·rw [setD_self] at e; cases e
 ·rw [setD_self] at e; cases e
 ·rw [setG_ne (by omega)]; exact h7 d3
 ·rw [setG_ne (by omega)]
  obtain ⟨y, cs, x, e1, e2, e3⟩ := h8 d4
  exact ⟨y, cs, x, e1, e2, e3.out hg (by omega)⟩
 ·rw [setD_ne (by omega), setD_ne (by omega), setD_ne (by omega), setD_ne (by omega), setG_ne (by omega)]
  exact ⟨d0, d2, d3, d4, cs, x, he, hc⟩
 ·rw [setG_ne (by omega)]; exact h10 d0
 ·rw [setG_ne (by omega)]; exact h11 d2
end
def VolS (v w : World) (g : Nat) (A : Option Addr) (l : List Int) (cap : Nat) (e : Ending) (w' : World) : Prop :=
 ∃ (y : VolN) (cs : Array Value), e = .returned (.agg cs) ∧ y.Inv ∧ VolO w' w.heap.size y (.agg cs) ∧ St v g A l cap w' ∧ w.grownBy w' (some g)
set_option maxRecDepth 20000 in
theorem draw12_calls (v : World) (g : Nat) (A : Option Addr) (l : List Int) (cap : Nat) (w : World) (hn : l.length ≤ 4096) (h : St v g A l cap w) :
    Calls Tryz.prog 65 #[.pointer (some ⟨g, 0, none⟩)] w (VolS v w g A l cap) := by
 have HN := hid (show l.length ≤ maxLen by unfold maxLen; omega)
 have HL := h.2.lt
 have S0 := hid (h.alloc (.cells zV 114))
 have K0 := hid (CellsAt.new w 114 zV)
 have G0 := hid (gb_alloc (gb_refl w (some g)) (.cells zV 114))
 have hnl : (l.length : Int) ≤ 4096 := by omega
 clear hn h
 go_enter Tryz.func65, Tryz.ntmps65
 go_wp2_with fail
 refine (draw5p_calls v g A l cap _ HN.out S0.out).mono ?_; rintro e w1 ⟨key, u, zs, rfl, hp, r1, s1, g1⟩
 obtain ⟨QA, qc, hq, hqi, hqc⟩ := r1.reads_cap
 subst hq
 have S1 := hid s1
 have K1 := hid (K0.out.grown g1 (by intro e; injection e; omega))
 have G1 := hid (gb_trans G0.out g1)
 have QI := hid hqi
 have HP := hid hp
 have hz1 : w.heap.size < w1.heap.size := by have := g1.size; simp at this; omega
 clear s1 g1 r1 hqi hp S0 K0 G0
 go_wp2_with fail
 refine (formatted_calls key QA zs qc _ hqc QI.out HP.out).mono ?_; rintro e w2 ⟨cs, rfl, hv, hb⟩
 obtain ⟨y, hy⟩ : ∃ y, y = formatVol key zs := ⟨_, rfl⟩
 have HI := hid (show y.Inv by rw [hy]; exact formatVol_inv HP.out)
 rw [← hy] at hv
 clear hy
 obtain ⟨A', c', B', d', C', e', b', o', s', e1, -⟩ := hv.reads
 subst e1
 have hz2 : w1.heap.size ≤ w2.heap.size := hb.size
 have s2 := S1.out.below hb (show g < w1.heap.size by omega)
 have k2 := K1.out.below hb hz1
 have g2 := gb_blw G1.out (hb.mono (by omega))
 have v2 := hv.mono (show w.heap.size + 1 ≤ w1.heap.size by omega)
 have s3 := s2.alloc (.cells (vX y A' c' B' d' C' e' b' o' s') 114)
 have k3 := CellsAt.grown k2 (World.grownBy_alloc w2 (.cells (vX y A' c' B' d' C' e' b' o' s') 114) none) (by simp)
 have g3 := gb_alloc g2 (.cells (vX y A' c' B' d' C' e' b' o' s') 114)
 have v3 := v2.below ((Below.refl _ _).alloc (Nat.le_refl _) (.cells (vX y A' c' B' d' C' e' b' o' s') 114))
 have b3 := CellsAt.new w2 114 (vX y A' c' B' d' C' e' b' o' s')
 clear hv hb s2 k2 g2 v2 S1 K1 G1
 go_upto_region 2 with fail
 generalize World.alloc w2 _ = w3 at s3 k3 g3 v3 b3 ⊢
 have S3 := hid s3
 have K3 := hid k3
 have G3 := hid g3
 have V3 := hid v3
 have B3 := hid b3
 obtain ⟨i0, h0, hi0, hcur⟩ := s3.2.2
 have cu : ∀ i, w3.cell? ⟨g, i, none⟩ = #[.slice A l.length cap, .int .i64 i0, .int .i64 h0][i]? := hcur.cell
 have hwl : IntKind.i64.wrap (2 + (l.length : Int)) = 2 + l.length := IntWalk.i64_in _ (by omega)
 clear s3 k3 g3 v3 b3 hcur
 go_region_with (first
  | (go_at_call 31; refine (below_st v g A l cap 30 _ HN.out S3.out.drew (by omega)).mono ?_; rintro e wx ⟨n0, rfl, ⟨n00, n01⟩, sx, gx⟩; have hcx := sx.2.2; obtain ⟨i1, h1, hi1, hc1⟩ := hcx; have cx : ∀ i, wx.cell? ⟨g, i, none⟩ = #[.slice A l.length cap, .int .i64 i1, .int .i64 h1][i]? := hc1.cell; have SX := hid sx; have KX := hid (K3.out.drew.grown gx (by intro e; injection e; omega)); have GX := hid (gb_trans (gb_drew G3.out) gx); have VX := hid (VolO.out (show VolO w3.drew (w.heap.size + 1) y _ from V3.out) gx (by omega)); have BX := hid (B3.out.drew.grown gx (by intro e; injection e; omega)); clear sx gx hc1)
  | (go_at_call 102; refine (min_calls _ _ _).mono ?_; rintro e w' ⟨rfl, rfl⟩))
 all_goals
  obtain ⟨m, hm⟩ : ∃ m : Nat, min (2 + (l.length : Int)) n0 = m := ⟨(min (2 + (l.length : Int)) n0).toNat, by omega⟩
  rw [hm]
  have R0 := hid (show D12Rel w w2.heap.size v g A l cap m y wx from ⟨by omega, HI.out, A', c', B', d', C', e', b', o', s', BX.out, KX.out, VX.out, SX.out, GX.out⟩)
  have hl2 : w2.heap.size < wx.heap.size := BX.out.lt
  clear cu cx hm HI SX KX GX VX BX S3 K3 G3 V3 B3 QI hqc HP hwl hi0 n00 n01 hi1
  go_simp
  go_wp2_with fail
  trace_state
  go_loopw [4] (fun i wr => ∃ (n : Nat) (y : VolN), i = .int .i64 n ∧ D12Rel w w2.heap.size v g A l cap n y wr) (fun i _ => (intOf i).toNat)
  case atStart => exact ⟨m, y, rfl, R0.out⟩
  case round =>
   obtain ⟨n, z, rfl, hn9, hz, A1, c1, B1, k1, C1, e1, b1, o1, t1, hb, hk, hv, hs, hg⟩ := hrel
   have h6 : ∀ i, wr.cell? ⟨w2.heap.size, i, none⟩ = (vX z A1 c1 B1 k1 C1 e1 b1 o1 t1)[i]? := hb.cell
   have k6 : ∀ i, wr.cell? ⟨w.heap.size, i, none⟩ = zV[i]? := hk.cell
   have f6 := hb.frozen
   have f7 := hk.frozen
   rcases n with _ | n
   ·have HK := hid hk
    have HVO := hid hv
    have SO := hid hs
    have GO := hid hg
    have HZ := hid hz
    clear hk hv hs hg hz hb
    go_wp2_with fail
    have hvp := vol_put (x0 := .int .i64 z.key) (x1 := .slice A1 z.counts.length c1) (x2 := .slice B1 z.trusts.length k1) (x3 := .slice C1 z.cells.length e1) (x4 := .slice (some ⟨b1, o1, none⟩) 2 t1) (x5 := .int .i64 z.count) HK.out
    generalize World.setCell _ _ _ = w9 at hvp ⊢
    have d0 := hvp.1.cell 0
    have d1 := hvp.1.cell 1
    have d2 := hvp.1.cell 2
    have d3 := hvp.1.cell 3
    have d4 := hvp.1.cell 4
    have d5 := hvp.1.cell 5
    simp only [List.getElem?_toArray, List.getElem?_cons_zero, List.getElem?_cons_succ] at d0 d1 d2 d3 d4 d5
    exact bodyPost_ret (v := .agg (vX z A1 c1 B1 k1 C1 e1 b1 o1 t1)) (by simp [results, Tryz.results65, go_sem, d0, d1, d2, d3, d4, d5]) rfl ⟨z, _, rfl, HZ.out, (HVO.out.out hvp.2 (by omega)).mono (by omega), SO.out.off hvp.2 HL, gb_put GO.out hvp.2 (Nat.le_refl _)⟩
   ·have hd : (0 : Int) < ((n + 1 : Nat) : Int) := by omega
    have HK := hid hk
    have HB := hid hb
    have HVO := hid hv
    have SO := hid hs
    have GO := hid hg
    have HZ := hid hz
    clear hk hv hs hg hz hb
    obtain ⟨q1, q2, q3, q4⟩ : z.counts.length ≤ 1048576 ∧ z.trusts.length ≤ 1048576 ∧ z.cells.length ≤ 1048576 ∧ z.trusts.length = z.counts.length := by
     have a := HZ.out.short
     unfold VolN.Short at a
     have b := HZ.out.fit.1
     omega
    have q5 := HZ.out.pos
    have hlr : w2.heap.size < wr.heap.size := HB.out.lt
    go_upto_region 5 with fail
    have hq2 : w.heap.size < w2.heap.size := by omega
    have C0 := hid (fun γ => D12C.start (γ := γ) SO.out GO.out HK.out HVO.out HB.out)
    refine wp_region_free [true, false, true, true, true, false, false, false, true] (ShL [(0, fun v => v = .agg (vX z A1 c1 B1 k1 C1 e1 b1 o1 t1)), (2, fun v => v = .agg (vX z A1 c1 B1 k1 C1 e1 b1 o1 t1)), (3, fun v => ∃ kind a b c : Int, v = .agg #[.int .i64 kind, .int .i64 a, .int .i64 b, .int .i64 c]), (4, fun v => ∃ (a0 : Int) (A0 : Option Addr) (b0 c0 : Nat) (A1 : Option Addr) (b1 c1 : Nat) (A2 : Option Addr) (b2 c2 : Nat) (A3 : Option Addr) (b3 c3 : Nat) (a4 x0 x1 : Int), v = .tuple #[.agg #[.int .i64 a0, .slice A0 b0 c0, .slice A1 b1 c1, .slice A2 b2 c2, .slice A3 b3 c3, .int .i64 a4], .agg (cA x0 x1)])]) (fun D γ u => D12C w w2.heap.size v g A l cap z (vX z A1 c1 B1 k1 C1 e1 b1 o1 t1) D γ u) (by kernel_rfl) (by kernel_rfl) (fun γ => by kernel_rfl) (fun D γ γ' w ha h => h.loc ha) (ShL.inh _ ?inh) (fun γ => C0.out γ) (fun γ hγ => ?_)
    case inh =>
     intro y hy
     simp only [List.mem_cons, List.not_mem_nil, or_false] at hy
     rcases hy with rfl | rfl | rfl | rfl
     ·exact ⟨_, rfl⟩
     ·exact ⟨_, rfl⟩
     ·exact ⟨_, 0, 0, 0, 0, rfl⟩
     ·exact ⟨_, 0, none, 0, 0, none, 0, 0, none, 0, 0, none, 0, 0, 0, 0, 0, rfl⟩
    have e0 : γ 0 = .agg (vX z A1 c1 B1 k1 C1 e1 b1 o1 t1) := hγ 0 rfl
    have e2 : γ 2 = .agg (vX z A1 c1 B1 k1 C1 e1 b1 o1 t1) := hγ 2 rfl
    obtain ⟨kd, na, nb, nc, e3⟩ : ∃ kind a b c : Int, γ 3 = .agg #[.int .i64 kind, .int .i64 a, .int .i64 b, .int .i64 c] := hγ 3 rfl
    obtain ⟨p0, P0, r0, s0, P1, r1, s1, P2, r2, s2, P3, r3, s3, p4, x0, x1, e4⟩ : ∃ (a0 : Int) (A0 : Option Addr) (b0 c0 : Nat) (A1 : Option Addr) (b1 c1 : Nat) (A2 : Option Addr) (b2 c2 : Nat) (A3 : Option Addr) (b3 c3 : Nat) (a4 x0 x1 : Int), γ 4 = .tuple #[.agg #[.int .i64 a0, .slice A0 b0 c0, .slice A1 b1 c1, .slice A2 b2 c2, .slice A3 b3 c3, .int .i64 a4], .agg (cA x0 x1)] := hγ 4 rfl
    have e8 : γ 8 = undef := hγ 8 rfl
    clear hγ C0
    apply Exists.intro
    refine ⟨fun D => ?_, ?_, ?_⟩
    ·simp only [hushL, cond_true, cond_false, Nat.reduceAdd, e0, e2, e3, e4, e8]
     iterate 9 (first
      | go_big_quiet_skip
      | (go_big_quiet_want
         go_big_quiet_op
         first
          | go_big_quiet_on
          | (apply Exists.intro
             refine ⟨fun u hu => ?_, ?_⟩
             ·first
                | with_reducible rfl
                | (go_simp; first | done | with_reducible rfl)
             go_big_quiet_on)))
     exact wpQuiet_nil rfl
    ·simp only [freeOk, Nat.reduceAdd]
     refine ⟨fun D u hD hd hu => ?_, fun D u hD hd hu => ?_, fun D u hD hd hu => ?_, fun D u hD hd hu => ?_, fun D u hD hd hu => ?_, trivial⟩
     ·exact steps_load (hu.2.2.2.2.1 (hu.d8 (.inl rfl) hD)) rfl rfl Tryz.underlying114 rfl (by kernel_rfl) ⟨rfl, hu.load0 hD⟩
     ·exact steps_load (hu.2.2.2.2.1 (hu.d8 (.inr (.inl rfl)) hD)) rfl rfl Tryz.underlying114 rfl (by kernel_rfl) ⟨rfl, hu.load2 hD⟩
     ·exact steps_call ((l14Draw_st v g A l cap u HN.out hu.1 z.key z.count A1 B1 C1 _ z.counts.length c1 z.trusts.length k1 z.cells.length e1 2 t1 q2 q3 q5).mono fun e w' ⟨kind, a, b, c, he, hkd, ha, hka, sy, gy⟩ => ⟨_, he, ⟨_, _, _, _, rfl⟩, hu.draw hD HL hq2 hkd ha hka sy gy⟩) rfl rfl rfl rfl (by kernel_rfl)
     ·have d3 := hd { on := 3, ground := Ground.data } (by simp) rfl rfl
      have d8 := hu.d8 (.inr (.inr (.inr rfl))) hD
      obtain ⟨kind, a, b, c, ee, hkd, ha, hka⟩ := hu.2.2.2.2.2.2.1 d3
      rw [e3] at ee
      simp only [Value.agg.injEq, Array.mk.injEq, List.cons.injEq, Value.int.injEq, true_and, and_true] at ee
      obtain ⟨rfl, rfl, rfl, rfl⟩ := ee
      exact steps_call ((l14Do_r z _ u HZ.out (hu.2.2.2.1 d8).reads kd na nb nc hkd.1 hkd.2 ⟨by omega, by omega⟩ (fun h4 => ⟨ha.1, by have := hka h4; omega⟩)).mono fun e w' ⟨cs, he, hv5, hb5⟩ => ⟨_, he, by obtain ⟨A', c', B', d', C', e', b', o', s', e1q, -⟩ := hv5.reads; rw [e1q]; exact ⟨_, _, _, _, _, _, _, _, _, _, _, _, _, _, _, _, rfl⟩, hu.did hD HL hq2 (doVol_inv HZ.out kd na nb nc) hv5 hb5⟩) rfl rfl rfl rfl (by kernel_rfl)
     ·have d0 := hd { on := 0, ground := Ground.phase } (by simp) rfl rfl
      have d2 := hd { on := 2, ground := Ground.phase } (by simp) rfl rfl
      have d3 := hd { on := 3, ground := Ground.phase } (by simp) rfl rfl
      have d4 := hd { on := 4, ground := Ground.phase } (by simp) rfl rfl
      exact steps_store (hu.2.2.2.2.1 hD) rfl rfl rfl (by kernel_rfl) (by simp) (by simp [Value.oneCell']) (fun w' hc hg => ⟨rfl, hu.store d0 d2 d3 d4 HL hq2 e4 hc hg⟩)
    ·intro D uf hD hu
     obtain ⟨h1, h2, h3, h4, h5, h6, h7, h8, h9, h10, h11⟩ := hu
     obtain ⟨y2, cs, x, e5, hi5, hv5⟩ := h8 (hD 4 (by simp) rfl)
     obtain ⟨-, -, -, -, cs', x', e6, hc6⟩ := h9 (hD 8 (by simp) rfl)
     obtain ⟨A', c', B', d', C', e', b', o', s', e1q, -⟩ := hv5.reads
     injection e1q with e1q
     rw [e5] at e6
     injection e6 with e6
     simp only [Array.mk.injEq, List.cons.injEq, Value.agg.injEq, and_true] at e6
     obtain ⟨e6, -⟩ := e6
     subst e6
     subst e1q
     have HR := hid (show D12Rel w w2.heap.size v g A l cap n y2 uf from ⟨by omega, hi5, A', c', B', d', C', e', b', o', s', hc6, h3, hv5.mono (by omega), h1, h2⟩)
     clear h1 h2 h3 h4 h5 h6 h7 h8 h9 h10 h11 hi5 hv5 hc6 e4 e5 e0 e2 e3 e8 hD
     clear HK HB HVO SO GO HZ h6 k6 f6 f7
     go_simp
     go_wp2_with fail
     go_roundw
     case rel => exact ⟨n, y2, by go_num, HR.out⟩
     case measure => simp [intOf]
def KG (b v : World) (g : Nat) (A : Option Addr) (l : List Int) (cap : Nat) (L : List Box) (u : World) : Prop :=
 b.grownBy u (some g) ∧ St v g A l cap u ∧ g < b.heap.size ∧ ∀ x ∈ L, b.heap.size ≤ x.1 ∧ CellsAt u x.1 x.2.1 x.2.2
namespace KG
variable {b v u u' : World} {g k p : Nat} {A : Option Addr} {l : List Int} {cap : Nat} {L : List Box} {t : TypeId} {cs cs' : Array Value}
theorem start (h : St v g A l cap b) : KG b v g A l cap [] b := ⟨gb_refl _ _, h, h.2.lt, fun x hx => by cases hx⟩
theorem step (h : KG b v g A l cap L u) (hs : St v g A l cap u') (hg : u.grownBy u' (some g)) : KG b v g A l cap L u' :=
 ⟨gb_trans h.1 hg, hs, h.2.2.1, fun x hx => ⟨(h.2.2.2 x hx).1, (h.2.2.2 x hx).2.grown hg (by intro e; injection e with e; have h1 := (h.2.2.2 x hx).1; have h2 := h.2.2.1; omega)⟩⟩
theorem below (h : KG b v g A l cap L u) (hb : Below u.heap.size u u') : KG b v g A l cap L u' :=
 ⟨gb_blw h.1 (hb.mono h.1.size), h.2.1.below hb (Nat.lt_of_lt_of_le h.2.2.1 h.1.size), h.2.2.1, fun x hx => ⟨(h.2.2.2 x hx).1, (h.2.2.2 x hx).2.below hb (h.2.2.2 x hx).2.lt⟩⟩
theorem drew (h : KG b v g A l cap L u) : KG b v g A l cap L u.drew := ⟨gb_drew h.1, h.2.1.drew, h.2.2.1, fun x hx => ⟨(h.2.2.2 x hx).1, (h.2.2.2 x hx).2.drew⟩⟩
theorem put1 (h : KG b v g A l cap L u) (p : Nat) (t : TypeId) (cs : Array Value) (hp : u.heap.size = p) : KG b v g A l cap ((p, t, cs) :: L) (u.alloc (.cells cs t)) := by
 subst hp
 have h' := h.below ((Below.refl _ _).alloc (Nat.le_refl _) (.cells cs t))
 refine ⟨h'.1, h'.2.1, h'.2.2.1, fun x hx => ?_⟩
 rcases List.mem_cons.1 hx with rfl | hx
 ·exact ⟨h.1.size, CellsAt.new u t cs⟩
 ·exact h'.2.2.2 x hx
theorem more (h : KG b v g A l cap L u) (hg : b.heap.size ≤ p) (hc : CellsAt u p t cs) : KG b v g A l cap ((p, t, cs) :: L) u := by
 refine ⟨h.1, h.2.1, h.2.2.1, fun x hx => ?_⟩
 rcases List.mem_cons.1 hx with rfl | hx
 ·exact ⟨hg, hc⟩
 ·exact h.2.2.2 x hx
theorem rd (h : KG b v g A l cap L u) : Rd u L := Rd.of fun x hx => (h.2.2.2 x hx).2
theorem at_ (h : KG b v g A l cap L u) (hm : (p, t, cs) ∈ L) : CellsAt u p t cs := (h.2.2.2 _ hm).2
theorem lt (h : KG b v g A l cap L u) {x : Box} (hx : x ∈ L) : x.1 < u.heap.size := (h.2.2.2 x hx).2.lt
theorem put (h : KG b v g A l cap L u) (hk : L[k]? = some (p, t, cs)) (ha : Apart L) (hg : u.grownBy u' (some p)) (hc : CellsAt u' p t cs') : KG b v g A l cap (putBox L k cs') u' := by
 have hm : (p, t, cs) ∈ L := List.mem_of_getElem? hk
 have hp : b.heap.size ≤ p := (h.2.2.2 _ hm).1
 have hgp : g < p := Nat.lt_of_lt_of_le h.2.2.1 hp
 refine ⟨gb_put h.1 hg hp, h.2.1.off hg hgp, h.2.2.1, fun x hx => ?_⟩
 unfold putBox at hx
 obtain ⟨j, hj⟩ := List.mem_iff_getElem?.1 hx
 rw [List.getElem?_modify] at hj
 by_cases hkj : k = j
 ·subst hkj
  rw [hk] at hj
  simp only [if_true, Option.map_eq_map, Option.map_some, Option.some.injEq] at hj
  subst hj
  exact ⟨hp, hc⟩
 ·simp only [hkj, if_false, Option.map_eq_map, Option.map_id_fun', id_eq] at hj
  have hxm := List.mem_of_getElem? hj
  refine ⟨(h.2.2.2 x hxm).1, (h.2.2.2 x hxm).2.grown hg ?_⟩
  intro e
  injection e with e
  unfold Apart at ha
  have h1 : (L.map (·.1))[j]? = some x.1 := by rw [List.getElem?_map, hj]; rfl
  have h2 : (L.map (·.1))[k]? = some p := by rw [List.getElem?_map, hk]; rfl
  rw [← e] at h2
  have hjl : j < (L.map (·.1)).length := (List.getElem?_eq_some_iff.1 h1).1
  exact hkj ((List.getElem?_inj hjl ha).1 (h1.trans h2.symm)).symm
end KG
def KB (w v : World) (g : Nat) (A : Option Addr) (l : List Int) (cap : Nat) (L : List Box) (u : World) : Prop :=
 Below w.heap.size w u ∧ St v g A l cap u ∧ w.heap.size ≤ g ∧ ∀ x ∈ L, (w.heap.size ≤ x.1 ∧ x.1 ≠ g) ∧ CellsAt u x.1 x.2.1 x.2.2
namespace KB
variable {w v u u' : World} {g k p : Nat} {A : Option Addr} {l : List Int} {cap : Nat} {L : List Box} {t : TypeId} {cs cs' : Array Value}
theorem step (h : KB w v g A l cap L u) (hs : St v g A l cap u') (hg : u.grownBy u' (some g)) : KB w v g A l cap L u' :=
 ⟨bgb h.1 hg h.1.size h.2.2.1, hs, h.2.2.1, fun x hx => ⟨(h.2.2.2 x hx).1, (h.2.2.2 x hx).2.grown hg (by intro e; injection e with e; exact (h.2.2.2 x hx).1.2 e)⟩⟩
theorem below (h : KB w v g A l cap L u) (hb : Below u.heap.size u u') : KB w v g A l cap L u' :=
 ⟨h.1.trans (hb.mono h.1.size), h.2.1.below hb h.2.1.2.lt, h.2.2.1, fun x hx => ⟨(h.2.2.2 x hx).1, (h.2.2.2 x hx).2.below hb (h.2.2.2 x hx).2.lt⟩⟩
theorem put1 (h : KB w v g A l cap L u) (p : Nat) (t : TypeId) (cs : Array Value) (hp : u.heap.size = p) : KB w v g A l cap ((p, t, cs) :: L) (u.alloc (.cells cs t)) := by
 subst hp
 have h' := h.below ((Below.refl _ _).alloc (Nat.le_refl _) (.cells cs t))
 refine ⟨h'.1, h'.2.1, h'.2.2.1, fun x hx => ?_⟩
 rcases List.mem_cons.1 hx with rfl | hx
 ·exact ⟨⟨h.1.size, Nat.ne_of_gt h.2.1.2.lt⟩, CellsAt.new u t cs⟩
 ·exact h'.2.2.2 x hx
theorem rd (h : KB w v g A l cap L u) : Rd u L := Rd.of fun x hx => (h.2.2.2 x hx).2
theorem at_ (h : KB w v g A l cap L u) (hm : (p, t, cs) ∈ L) : CellsAt u p t cs := (h.2.2.2 _ hm).2
end KB
def RowB (u : World) (lo hi : Nat) (Q : Option Addr) (zs : List Int) (c : Nat) : Prop := Row u lo 2 (.slice Q zs.length c) zs ∧ ∀ j, (Value.slice Q zs.length c).ownBlock = some j → j < hi
namespace RowB
variable {u u' : World} {lo hi p : Nat} {Q : Option Addr} {zs : List Int} {c : Nat}
theorem of (h : Row u lo 2 (.slice Q zs.length c) zs) : RowB u lo u.heap.size Q zs c := ⟨h, fun j e => (h.1.lt j e).2⟩
theorem grown (h : RowB u lo hi Q zs c) (hg : u.grownBy u' (some p)) (hp : p < lo ∨ hi ≤ p) : RowB u' lo hi Q zs c := by
 refine ⟨⟨h.1.1.kept hg ?_, h.1.2⟩, h.2⟩
 cases e : (Value.slice Q zs.length c).ownBlock with
 | none => exact .inl rfl
 | some j =>
   refine .inr (by intro e2; injection e2 with e2; have h1 := h.2 j e; have h2 := (h.1.1.lt j e).1; omega)
theorem below (h : RowB u lo hi Q zs c) (hb : Below u.heap.size u u') : RowB u' lo hi Q zs c := by
 refine ⟨⟨h.1.1.kept (below_gb hb none) ?_, h.1.2⟩, h.2⟩
 cases e : (Value.slice Q zs.length c).ownBlock with
 | none => exact .inl rfl
 | some j => exact .inr (by simp)
theorem drew (h : RowB u lo hi Q zs c) : RowB u.drew lo hi Q zs c := ⟨⟨h.1.1.drew, h.1.2⟩, h.2⟩
end RowB
def CelS (v w : World) (g : Nat) (A : Option Addr) (l : List Int) (cap : Nat) (e : Ending) (w' : World) : Prop :=
 ∃ t z : Int, e = .returned (.agg (cA t z)) ∧ I64 t ∧ I64 z ∧ St v g A l cap w' ∧ w.grownBy w' (some g)
theorem cel_end {v w w3 : World} {g h : Nat} {A : Option Addr} {l : List Int} {cap : Nat} {x y p q : Int} (hg : g < h) (hw : w.heap.size ≤ h) (hk : CellsAt w3 h 30 (cA p q)) (hs : St v g A l cap w3) (hG : w.grownBy w3 (some g)) :
    ∃ w4, (w3.setCell ⟨h, 0, none⟩ (.int .i64 x)).setCell ⟨h, 1, none⟩ (.int .i64 y) = w4 ∧ (w4.cell? ⟨h, 0, none⟩ = some (.int .i64 x) ∧ w4.cell? ⟨h, 1, none⟩ = some (.int .i64 y)) ∧ St v g A l cap w4 ∧ w.grownBy w4 (some g) := by
 have hk' := (hk.set_ 0 (.int .i64 x)).set_ 1 (.int .i64 y)
 exact ⟨_, rfl, ⟨hk'.cell 0, hk'.cell 1⟩, (hs.set hg 0 (.int .i64 x)).set hg 1 (.int .i64 y), gb_new (gb_new hG hw 0 (.int .i64 x)) hw 1 (.int .i64 y)⟩
theorem draw6_calls (v : World) (g : Nat) (A : Option Addr) (l : List Int) (cap : Nat) (w : World) (hn : l.length ≤ maxLen) (h : St v g A l cap w) :
    Calls Tryz.prog 105 #[.pointer (some ⟨g, 0, none⟩)] w (CelS v w g A l cap) := by
 have HN := hid hn
 have HS := hid h
 have HL := h.2.lt
 clear hn h
 go_enter Tryz.func105, Tryz.ntmps105
 go_wp2_with fail
 refine (below_st v g A l cap 12 _ HN.out (HS.out.alloc _) (by omega)).mono ?_; rintro e w1 ⟨x, rfl, ⟨x0, x1⟩, s1, g1⟩
 have S1 := hid s1
 have G1 := hid (gb_trans (gb_alloc (gb_refl w (some g)) _) g1)
 have K1 := hid ((CellsAt.new w 30 zC).grown g1 (by intro e; injection e with e; omega))
 clear s1 g1
 go_wp2_with fail
 refine (below_st v g A l cap 10007 _ HN.out S1.out (by omega)).mono ?_; rintro e w2 ⟨y, rfl, ⟨y0, y1⟩, s2, g2⟩
 have S2 := hid s2
 have G2 := hid (gb_trans G1.out g2)
 have hb := K1.out.grown g2 (by intro e; injection e with e; omega)
 have K2 := hid hb
 have f0 := hb.frozen 0
 have f1 := hb.frozen 1
 have c0 : w2.cell? ⟨w.heap.size, 0, none⟩ = some (.int .i64 0) := hb.cell 0
 have c1 : w2.cell? ⟨w.heap.size, 1, none⟩ = some (.int .i64 0) := hb.cell 1
 clear s2 g2 hb
 go_wp2_with fail
 obtain ⟨w9, e9, ⟨d0, d1⟩, S9, G9⟩ := cel_end (x := x) (y := y) HL (Nat.le_refl _) K2.out S2.out G2.out
 rw [e9]
 exact bodyPost_ret (v := .agg (cA x y)) (by simp [results, Tryz.results105, go_sem, d0, d1]) rfl ⟨x, y, rfl, ⟨by omega, by omega⟩, ⟨by omega, by omega⟩, S9, G9⟩
theorem draw6Any_calls (v : World) (g : Nat) (A : Option Addr) (l : List Int) (cap : Nat) (w : World) (hn : l.length ≤ maxLen) (h : St v g A l cap w) :
    Calls Tryz.prog 66 #[.pointer (some ⟨g, 0, none⟩)] w (CelS v w g A l cap) := by
 have HN := hid hn
 have HS := hid h
 have HL := h.2.lt
 clear hn h
 go_enter Tryz.func66, Tryz.ntmps66
 go_wp2_with fail
 refine (draw6_calls v g A l cap _ HN.out (HS.out.alloc _)).mono ?_; rintro e w1 ⟨x, y, rfl, ix, iy, s1, g1⟩
 have S1 := hid s1
 have G1 := hid (gb_trans (gb_alloc (gb_refl w (some g)) _) g1)
 have K1 := hid ((CellsAt.new w 30 zC).grown g1 (by intro e; injection e with e; omega))
 have z1 : w.heap.size < w1.heap.size := by have := g1.size; simp at this; omega
 have IX := hid ix
 have IY := hid iy
 clear s1 g1 ix iy
 go_wp2_with fail
 refine (once_st v g A l cap 6 _ HN.out (S1.out.alloc _) (by omega)).mono ?_; rintro e w2 ⟨b, rfl, s2, g2⟩
 have S2 := hid s2
 have G2 := hid (gb_trans (gb_alloc G1.out _) g2)
 have K2 := hid ((CellsAt.grown K1.out (World.grownBy_alloc w1 _ none) (by simp)).grown g2 (by intro e; injection e with e; omega))
 have T2 := hid ((CellsAt.new w1 30 (cA x y)).grown g2 (by intro e; injection e with e; omega))
 clear s2 g2
 rcases b with _ | _
 ·have f0 := K2.out.frozen 0
  have f1 := K2.out.frozen 1
  have c0 : w2.cell? ⟨w1.heap.size, 0, none⟩ = some (.int .i64 x) := T2.out.cell 0
  have c1 : w2.cell? ⟨w1.heap.size, 1, none⟩ = some (.int .i64 y) := T2.out.cell 1
  have r0 : w2.cell? ⟨w.heap.size, 0, none⟩ = some (.int .i64 0) := K2.out.cell 0
  have r1 : w2.cell? ⟨w.heap.size, 1, none⟩ = some (.int .i64 0) := K2.out.cell 1
  go_wp2_with fail
  obtain ⟨w9, e9, ⟨d0, d1⟩, S9, G9⟩ := cel_end (x := x) (y := y) HL (Nat.le_refl _) K2.out S2.out G2.out
  rw [e9]
  have SS := hid S9
  have GG := hid G9
  clear e9 S9 G9 HL
  exact bodyPost_ret (v := .agg (cA x y)) (by simp [results, Tryz.results66, go_sem, d0, d1]) rfl ⟨_, _, rfl, IX.out, IY.out, SS.out, GG.out⟩
 ·go_wp2_with fail
  refine (once_st v g A l cap 2 w2 HN.out S2.out (by omega)).mono ?_; rintro e w3 ⟨k, rfl, s3, g3⟩
  have S3 := hid s3
  have G3 := hid (gb_trans G2.out g3)
  have K3 := hid (K2.out.grown g3 (by intro e; injection e with e; omega))
  have T3 := hid (T2.out.grown g3 (by intro e; injection e with e; omega))
  clear s3 g3 S2 G2 K2 T2 S1 G1 K1
  rcases k with _ | _
  ·go_wp2_with fail
   refine (num_st v g A l cap 10006 w3 HN.out S3.out (by omega) (by omega)).mono ?_; rintro e w4 ⟨u, rfl, iu, s4, g4⟩
   have IU := hid (show I64 u from iu)
   have KK := hid (K3.out.grown g4 (by intro e; injection e with e; omega))
   have TT := hid (T3.out.grown g4 (by intro e; injection e with e; omega))
   have K5 := hid (KK.out.grown (gb_set (gb_refl w4 (some w1.heap.size)) 1 (.int .i64 u)) (by intro e; injection e with e; omega))
   have S5 := hid (s4.set (Nat.lt_trans HL z1) 1 (.int .i64 u))
   have G5 := hid (gb_new (gb_trans G3.out g4) (Nat.le_of_lt z1) 1 (.int .i64 u))
   have f0 := KK.out.frozen 0
   have f1 := KK.out.frozen 1
   have q0 := TT.out.frozen 1
   have c0 : w4.cell? ⟨w1.heap.size, 0, none⟩ = some (.int .i64 x) := TT.out.cell 0
   have c1 : w4.cell? ⟨w1.heap.size, 1, none⟩ = some (.int .i64 y) := TT.out.cell 1
   have r0 : w4.cell? ⟨w.heap.size, 0, none⟩ = some (.int .i64 0) := KK.out.cell 0
   have r1 : w4.cell? ⟨w.heap.size, 1, none⟩ = some (.int .i64 0) := KK.out.cell 1
   clear s4 g4 iu
   go_wp2_with fail
   obtain ⟨w9, e9, ⟨d0, d1⟩, S9, G9⟩ := cel_end (x := x) (y := u) HL (Nat.le_refl _) K5.out S5.out G5.out
   rw [e9]
   have SS := hid S9
   have GG := hid G9
   clear e9 S9 G9 HL
   exact bodyPost_ret (v := .agg (cA x u)) (by simp [results, Tryz.results66, go_sem, d0, d1]) rfl ⟨_, _, rfl, IX.out, IU.out, SS.out, GG.out⟩
  ·go_wp2_with fail
   refine (num_st v g A l cap 100000 w3 HN.out S3.out (by omega) (by omega)).mono ?_; rintro e w4 ⟨u, rfl, iu, s4, g4⟩
   have IU := hid (show I64 u from iu)
   have KK := hid (K3.out.grown g4 (by intro e; injection e with e; omega))
   have TT := hid (T3.out.grown g4 (by intro e; injection e with e; omega))
   have K5 := hid (KK.out.grown (gb_set (gb_refl w4 (some w1.heap.size)) 0 (.int .i64 u)) (by intro e; injection e with e; omega))
   have S5 := hid (s4.set (Nat.lt_trans HL z1) 0 (.int .i64 u))
   have G5 := hid (gb_new (gb_trans G3.out g4) (Nat.le_of_lt z1) 0 (.int .i64 u))
   have f0 := KK.out.frozen 0
   have f1 := KK.out.frozen 1
   have q0 := TT.out.frozen 0
   have c0 : w4.cell? ⟨w1.heap.size, 0, none⟩ = some (.int .i64 x) := TT.out.cell 0
   have c1 : w4.cell? ⟨w1.heap.size, 1, none⟩ = some (.int .i64 y) := TT.out.cell 1
   have r0 : w4.cell? ⟨w.heap.size, 0, none⟩ = some (.int .i64 0) := KK.out.cell 0
   have r1 : w4.cell? ⟨w.heap.size, 1, none⟩ = some (.int .i64 0) := KK.out.cell 1
   clear s4 g4 iu
   go_wp2_with fail
   obtain ⟨w9, e9, ⟨d0, d1⟩, S9, G9⟩ := cel_end (x := u) (y := y) HL (Nat.le_refl _) K5.out S5.out G5.out
   rw [e9]
   have SS := hid S9
   have GG := hid G9
   clear e9 S9 G9 HL
   exact bodyPost_ret (v := .agg (cA u y)) (by simp [results, Tryz.results66, go_sem, d0, d1]) rfl ⟨_, _, rfl, IU.out, IY.out, SS.out, GG.out⟩
theorem VolO.open_ {u : World} {base : Nat} {x : VolN} {cs : Array Value} (h : VolO u base x (.agg cs)) (hi : x.Inv) :
    ∃ A c B d C e b sc, cs = (vX x A c B d C e b 0 sc) ∧ Row u base 2 (.slice A x.counts.length c) x.counts ∧ x.counts.length ≤ c ∧ TrRow u base (.slice B x.trusts.length d) x.trusts := by
 obtain ⟨A, c, B, d, C, e, b, A0, c0, C0, d0, A1, c1, C1, d1, h0, h1, h2, -⟩ := h
 injection h0 with h0
 obtain ⟨A', c', e1, -, hc⟩ := h1.form
 simp only [Value.slice.injEq, true_and] at e1
 obtain ⟨rfl, rfl⟩ := e1
 refine ⟨A, c, B, d, C, e, b, 2, h0, ⟨h1, fun i hl => ?_⟩, hc, h2⟩
 have := hi.1.2.2.1 i hl
 omega
theorem plan_put {w1 : World} {r : Nat} {t : TypeId} {x0 x1 y0 y1 : Value} (hk : CellsAt w1 r t #[y0, y1]) :
    CellsAt ((w1.setCell ⟨r, 0, none⟩ x0).setCell ⟨r, 1, none⟩ x1) r t #[x0, x1] ∧ w1.grownBy ((w1.setCell ⟨r, 0, none⟩ x0).setCell ⟨r, 1, none⟩ x1) (some r) :=
 ⟨(hk.set_ 0 x0).set_ 1 x1, gb_set (gb_set (gb_refl w1 (some r)) 0 x0) 1 x1⟩
theorem tru_put {w1 : World} {r : Nat} {t : TypeId} {x0 x1 x2 x3 x4 x5 x6 x7 y0 y1 y2 y3 y4 y5 y6 y7 : Value} (hk : CellsAt w1 r t #[y0, y1, y2, y3, y4, y5, y6, y7]) :
    CellsAt ((((((((w1.setCell ⟨r, 0, none⟩ x0).setCell ⟨r, 1, none⟩ x1).setCell ⟨r, 2, none⟩ x2).setCell ⟨r, 3, none⟩ x3).setCell ⟨r, 4, none⟩ x4).setCell ⟨r, 5, none⟩ x5).setCell ⟨r, 6, none⟩ x6).setCell ⟨r, 7, none⟩ x7) r t #[x0, x1, x2, x3, x4, x5, x6, x7] ∧
    w1.grownBy ((((((((w1.setCell ⟨r, 0, none⟩ x0).setCell ⟨r, 1, none⟩ x1).setCell ⟨r, 2, none⟩ x2).setCell ⟨r, 3, none⟩ x3).setCell ⟨r, 4, none⟩ x4).setCell ⟨r, 5, none⟩ x5).setCell ⟨r, 6, none⟩ x6).setCell ⟨r, 7, none⟩ x7) (some r) := by
 have h := (((((((hk.set_ 0 x0).set_ 1 x1).set_ 2 x2).set_ 3 x3).set_ 4 x4).set_ 5 x5).set_ 6 x6).set_ 7 x7
 simp only [List.setIfInBounds_toArray, List.set_cons_zero, List.set_cons_succ] at h
 exact ⟨h, gb_set (gb_set (gb_set (gb_set (gb_set (gb_set (gb_set (gb_set (gb_refl w1 (some r)) 0 x0) 1 x1) 2 x2) 3 x3) 4 x4) 5 x5) 6 x6) 7 x7⟩
end Go.Proofs.YteopplldbcgjjaaGreatDoor.Mx

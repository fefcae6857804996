import Derived.Test.YtgaecedhkbneaaaGreatDoorH08
import Derived.Test.YtgaecedhkbneaaaGreatDoorH06
import Derived.Test.YtgaecedhkbneaaaGreatDoorH05
import Derived.Test.YtgaecedhkbneaaaGreatDoorH02
namespace Go.Proofs.YtgaecedhkbneaaaGreatDoor.Mx
open Go.ChangeShapes Go.WideShapes Go.ChangeAt Go.RowKit
set_option linter.unusedVariables false
theorem ints_one (l : List Int) : ∀ u ∈ l.map (Value.int .i64), u.oneCell' = true := by
  intro u hu
  obtain ⟨x, _, rfl⟩ := List.mem_map.1 hu
  rfl
theorem ints_news {w : World} {B : Nat} {A : Option Addr} {l : List Int} (h : Ints w .i64 B A l) : ∀ j u, (l.map (Value.int .i64))[j]? = some u → ∃ ad, A = some ad ∧ w.cell? (ad.add j) = some u := by
  intro j u hu
  have hj : j < l.length := by have := (List.getElem?_eq_some_iff.1 hu).1; simpa using this
  obtain ⟨b, off, rfl, _, hc⟩ := h j hj
  refine ⟨_, rfl, ?_⟩
  rw [Addr.add_mid, hc]
  rw [List.getElem?_map, List.getElem?_eq_getElem hj] at hu
  simp only [Option.map_some, Option.some.injEq] at hu
  rw [← hu, List.getD_eq_getElem?_getD, List.getElem?_eq_getElem hj]
  rfl
def IRow (w : World) (base : Nat) (v : Value) (l : List Int) : Prop := w.ownsRow base 2 1 v l.length (l.map (Value.int .i64))
theorem IRow.form {w : World} {base : Nat} {v : Value} {l : List Int} (h : IRow w base v l) : ∃ A c, v = .slice A l.length c ∧ Ints w .i64 w.heap.size A l ∧ l.length ≤ c := by
  rcases h.2 with ⟨rfl, hn⟩ | ⟨g, cap, cur, rfl, hb, hg, hnc, hcm, hcs, htake⟩
  · have : l = [] := List.length_eq_zero_iff.1 hn
    subst this
    exact ⟨none, 0, rfl, Ints.nil, Nat.le_refl _⟩
  · refine ⟨_, cap, rfl, fun i hi => ⟨g, 0, rfl, (Array.getElem?_eq_some_iff.1 hg).1, ?_⟩, hnc⟩
    rw [Nat.zero_add, World.ownsRow.cellAt h i (by omega), List.getElem?_map, List.getElem?_eq_getElem hi, List.getD_eq_getElem?_getD, List.getElem?_eq_getElem hi]
    rfl
def NewInts (b : World) (l : List Int) (e : Ending) (w' : World) : Prop := ∃ A c, e = .returned (.slice A l.length c) ∧ IRow w' b.heap.size (.slice A l.length c) l ∧ Below b.heap.size b w'
set_option maxHeartbeats 1000000 in
theorem l1Copy_calls (A : Option Addr) (l : List Int) (cap : Nat) (w : World) (hn : l.length ≤ 1048576) (hA : Ints w .i64 w.heap.size A l) :
    Calls Tryz.prog 119 #[.slice A l.length cap] w (NewInts w l) := by
  have HB := Lib.hid ((Below.refl w.heap.size w).alloc (Nat.le_refl _) (.cells #[] 2))
  have HA := Lib.hid (ints_news ((hA.below HB.out (Nat.le_refl _)).more HB.out.size))
  have HR := Lib.hid (World.ownsRow_made (e := 2) (size := 1) w #[] 0 (Nat.le_refl w.heap.size) (by simp [maxLen]) rfl)
  have h1 := ints_one l
  clear hA
  go_enter Tryz.func119, Tryz.ntmps119
  go_wp2_with (at_builtin; refine wpList_append_row rfl _ _ 24 rfl w.heap.size 2 1 8 0 (.int .i64 0) (.slice (some ⟨w.heap.size, 0, none⟩) 0 0) [] A l.length cap (l.map (Value.int .i64)) Tryz.underlying24 info_i64 rfl (by omega) rfl HR.out rfl (by simp) HA.out h1 (by unfold maxLen; omega) (by omega) (by simp) ?_)
  intro v' w' hown hg _
  have hb : Below w.heap.size w w' := bgb HB.out (g := w.heap.size) (by simpa [Value.ownBlock] using hg) (by simp) (Nat.le_refl _)
  have hrow : IRow w' w.heap.size v' l := hown
  obtain ⟨A', c', rfl, _, _⟩ := hrow.form
  go_wp2_with fail
  go_ret
  exact ⟨A', c', rfl, hrow, hb⟩
theorem row_new {u w' : World} {t size n : Nat} {A : Option Addr} {c m : Nat} {xs : List Value} (h : w'.ownsRow u.heap.size t size (.slice A m c) n xs) : ∀ g ∈ (ownRow 0 0 t size n xs).fp (.slice A m c), u.heap.size ≤ g ∧ g < w'.heap.size := by
  intro g hg
  cases A with
  | none => simp [ownRow] at hg
  | some a =>
    simp only [ownRow, List.mem_singleton] at hg
    subst hg
    exact World.ownsRow.lt h a.block rfl
theorem row_mono {u : World} {base base' t size n : Nat} {v : Value} {xs : List Value} (h : u.ownsRow base t size v n xs) (hb : base' ≤ base) : u.ownsRow base' t size v n xs := by
  refine ⟨h.1, ?_⟩
  rcases h.2 with h0 | ⟨g, cap, cur, e, hg, r⟩
  · exact .inl h0
  · exact .inr ⟨g, cap, cur, e, Nat.le_trans hb hg, r⟩
def NewPl (b : World) (key : Int) (l : List Int) (e : Ending) (w' : World) : Prop := ∃ A c, e = .returned (.agg (pA key A l.length c)) ∧ IRow w' b.heap.size (.slice A l.length c) l ∧ Below b.heap.size b w'
set_option maxRecDepth 20000 in
set_option maxHeartbeats 2000000 in
theorem l5Copy_calls (key : Int) (A : Option Addr) (l : List Int) (cap : Nat) (w : World) (hn : l.length ≤ 1048576) (hA : Ints w .i64 w.heap.size A l) :
    Calls Tryz.prog 59 #[.agg (pA key A l.length cap)] w (NewPl w key l) := by
  have K0 := Lib.hid (show Kept w [(w.heap.size + 1, 26, zP), (w.heap.size, 26, (pA key A l.length cap))] _ from (((Kept.refl w).put1 _ _ (pA key A l.length cap) rfl).put1 _ _ zP (by simp)))
  have CO := Lib.hid (fun (u : World) (hb : Below w.heap.size w u) => l1Copy_calls A l cap u hn ((hA.below hb (Nat.le_refl _)).more hb.size))
  clear hA
  go_enter Tryz.func59, Tryz.ntmps59
  go_upto_region 1 with fail
  have hk := K0.out
  generalize (w.alloc _).alloc _ = w0 at hk ⊢
  have lm0 : w.heap.size < w0.heap.size := hk.lt (x := (w.heap.size, 26, (pA key A l.length cap))) (by simp)
  have lm1 : w.heap.size + 1 < w0.heap.size := hk.lt (x := (w.heap.size + 1, 26, zP)) (by simp)
  have hn0 : Kept w [(w.heap.size, 26, (pA key A l.length cap))] _ := hk.sub (by intro y hy; simp at hy ⊢; subst hy; simp)
  have hcz := hk.at_ (p := w.heap.size + 1) (t := 26) (cs := zP) (by simp)
  have hok : OutB.Ok (⟨w.heap.size + 1, 26, 2, 6, [4], fun γ => #[.int .i64 key, γ 4]⟩ : OutB) w (w0.heap.size) [(w.heap.size, 26, (pA key A l.length cap))] := ⟨by simp only [] <;> omega, by simp only [] <;> omega, by intro y hy; simp only [List.mem_cons, List.not_mem_nil, or_false] at hy; subst hy <;> (simp only []; omega), fun γ γ' ha => by simp only []; rw [ha 4 (by simp)], fun γ => rfl, by simp⟩
  have hstab : ∀ zz ∈ ([ownRow 4 w.heap.size 2 1 l.length (l.map (Value.int .i64))] : List Own), zz.Stable := by
    intro y hy
    simp only [List.mem_cons, List.not_mem_nil, or_false] at hy
    subst hy; exact ownRow.stable _ _ _ _ _ _
  have hstart : ∀ γ, OwnR w (w0.heap.size) [(w.heap.size, 26, (pA key A l.length cap))] [ownRow 4 w.heap.size 2 1 l.length (l.map (Value.int .i64))] (fun _ _ => false) (⟨w.heap.size + 1, 26, 2, 6, [4], fun γ => #[.int .i64 key, γ 4]⟩ : OutB) (fun _ => false) γ _ := fun γ => OwnR.start hn0 hn0.1.size (Nat.le_refl _) (by intro y hy; simp only [List.mem_cons, List.not_mem_nil, or_false] at hy; subst hy <;> (simp only []; omega)) hcz rfl
  refine wp_region_free [false, false, false, false, true, false, true] (ShL [(4, fun v => ∃ (A : Option Addr) (c : Nat), v = .slice A l.length c)]) (fun D γ u => OwnR w (w0.heap.size) [(w.heap.size, 26, (pA key A l.length cap))] [ownRow 4 w.heap.size 2 1 l.length (l.map (Value.int .i64))] (fun _ _ => false) (⟨w.heap.size + 1, 26, 2, 6, [4], fun γ => #[.int .i64 key, γ 4]⟩ : OutB) D γ u) (by kernel_rfl) (by kernel_rfl) (fun γ => by kernel_rfl) (fun D γ γ' w ha h => h.loc hok ha) (ShL.inh _ ?inh) (fun γ => hstart γ) (fun γ hγ => ?_)
  case inh =>
    intro y hy
    simp only [List.mem_cons, List.not_mem_nil, or_false] at hy
    subst hy
    · exact ⟨_, none, 0, rfl⟩
  clear hstart hn0 hcz
  obtain ⟨A4, c4, g4⟩ : ∃ (A : Option Addr) (c : Nat), γ 4 = .slice A l.length c := hγ 4 rfl
  have g6 : γ 6 = undef := hγ 6 rfl
  clear hk
  apply Exists.intro
  refine ⟨fun D => ?_, ?_, ?_⟩
  · simp only [hushL, cond_true, cond_false, Nat.reduceAdd, g4, g6]
    iterate 7 (first
      | go_big_quiet_skip
      | (go_big_quiet_want
         go_big_quiet_op
         first
           | go_big_quiet_on
           | (apply Exists.intro
              refine ⟨fun u hu => ?_, ?_⟩
              · first
                  | with_reducible rfl
                  | (obtain ⟨kc0, kf0, -⟩ := hu.1.1.1.rd; go_simp; first | done | with_reducible rfl)
              go_big_quiet_on)))
    exact wpQuiet_nil rfl
  · simp only [freeOk, Nat.reduceAdd]
    refine ⟨fun D u hD hd hu => ?_, fun D u hD hd hu => ?_, trivial⟩
    · refine steps_call ((CO.out u hu.1.1.1.1).mono ?_) rfl rfl rfl rfl (by kernel_rfl)
      rintro e w' ⟨A5, c5, rfl, hrow, hb⟩
      refine ⟨_, rfl, ⟨A5, c5, rfl⟩, ?_⟩
      exact hu.made hok hstab (z := ownRow 4 w.heap.size 2 1 l.length (l.map (Value.int .i64))) (by simp) (by intro y hy; simp only [List.mem_cons, List.not_mem_nil, or_false] at hy; subst hy; exact .inl rfl) hD (Nat.ne_of_beq_eq_false rfl) hb (row_mono hrow hu.1.1.1.1.size) (fun g hg => row_new hrow g hg)
    · obtain ⟨z, hz, hzs⟩ := hu.box
      refine steps_store hz rfl rfl (show _ = Value.agg (pA key A4 l.length c4) from rfl) (by kernel_rfl) hzs (by simp [Value.oneCell']) (fun w' hc hg => ⟨rfl, hu.stored hok hstab (by intro y hy; simp only [List.mem_cons, List.not_mem_nil, or_false] at hy; subst hy; exact ⟨Nat.ne_of_beq_eq_false rfl, Nat.ne_of_beq_eq_false rfl⟩) (by intro y hy; simp only [List.mem_cons, List.not_mem_nil, or_false] at hy; subst hy; exact hd { on := 4, ground := Ground.phase } (by simp) rfl rfl) hg ?_ _⟩)
      show CellsAt w' (w.heap.size + 1) 26 (#[.int .i64 key, γ 4])
      simp only [g4]
      exact hc
  · intro D uf hD hu
    have ho4 : IRow uf w.heap.size (γ 4) l := (hu.1.at_ (z := ownRow 4 w.heap.size 2 1 l.length (l.map (Value.int .i64))) (by simp) (hD 4 (by simp) rfl)).1
    simp only [g4] at ho4
    obtain ⟨hres0, hf⟩ := hu.done (hD 6 (by simp) rfl)
    have hres : CellsAt uf (w.heap.size + 1) 26 (#[.int .i64 key, γ 4]) := hres0
    simp only [g4] at hres
    clear hres0
    have d0 := hres.cell 0
    have d1 := hres.cell 1
    go_wp2_with fail
    exact bodyPost_ret (v := .agg (pA key A4 l.length c4)) (by simp [results, Tryz.results59, go_sem, d0, d1]) rfl ⟨A4, c4, rfl, ho4, hf.1⟩
set_option maxRecDepth 20000 in
set_option maxHeartbeats 4000000 in
theorem markTrustG_calls (g n cap : Nat) (m : Int) (t : TypeId) (cs : Array Value) (w : World) (hn : n ≤ 1048576) (hm0 : 0 ≤ m) (hm1 : m ≤ 1125899906842624) (hc : CellsAt w g t cs) (hs : n * 8 ≤ cs.size) :
    Calls Tryz.prog 83 #[.slice (some ⟨g, 0, none⟩) n cap, .int .i64 m] w fun e w' => e = .returned (.int .i64 (m + 8 * n)) ∧ MarkT w' g n m ∧ w.grownBy w' (some g) ∧ ∃ ds, CellsAt w' g t ds ∧ ds.size = cs.size := by
  have HC := Lib.hid hc
  have HS := Lib.hid hs
  clear hc hs
  go_enter Tryz.func83, Tryz.ntmps83
  go_wp2_with fail
  go_loopw [5, 1] (fun i t' u => ∃ k : Nat, ∃ z : Int, k ≤ n ∧ i = .int .i64 k ∧ z = m + 8 * k ∧ t' = .int .i64 z ∧ (∃ ds, CellsAt u g t ds ∧ ds.size = cs.size) ∧ MarkT u g k m ∧ w.grownBy u (some g)) (fun i _ _ => n - (intOf i).toNat)
  case atStart => exact ⟨0, m, by omega, rfl, by simp, rfl, ⟨cs, HC.out, rfl⟩, fun j hj => by omega, gb_refl _ _⟩
  case round =>
    obtain ⟨k, z, hk, rfl, hz, rfl, ⟨ds, hd, hds⟩, hmk, hg⟩ := hrel
    have HZ := Lib.hid hz
    have HG := Lib.hid hg
    have HM := Lib.hid hmk
    have hcs := HS.out
    have z0 : 0 ≤ z := by omega
    have z1 : z ≤ 1125899923619840 := by omega
    by_cases hlt : k < n
    · have hlt' : (k : Int) < n := by omega
      obtain ⟨q0, e0⟩ : ∃ q, wr.cell? ⟨g, k * 8, none⟩ = some q := ⟨_, (hd.cell (k * 8)).trans (Array.getElem?_eq_getElem (by omega))⟩
      obtain ⟨q1, e1⟩ : ∃ q, wr.cell? ⟨g, k * 8 + 1, none⟩ = some q := ⟨_, (hd.cell (k * 8 + 1)).trans (Array.getElem?_eq_getElem (by omega))⟩
      obtain ⟨q2, e2⟩ : ∃ q, wr.cell? ⟨g, k * 8 + 2, none⟩ = some q := ⟨_, (hd.cell (k * 8 + 2)).trans (Array.getElem?_eq_getElem (by omega))⟩
      obtain ⟨q3, e3⟩ : ∃ q, wr.cell? ⟨g, k * 8 + 3, none⟩ = some q := ⟨_, (hd.cell (k * 8 + 3)).trans (Array.getElem?_eq_getElem (by omega))⟩
      obtain ⟨q4, e4⟩ : ∃ q, wr.cell? ⟨g, k * 8 + 4, none⟩ = some q := ⟨_, (hd.cell (k * 8 + 4)).trans (Array.getElem?_eq_getElem (by omega))⟩
      obtain ⟨q5, e5⟩ : ∃ q, wr.cell? ⟨g, k * 8 + 5, none⟩ = some q := ⟨_, (hd.cell (k * 8 + 5)).trans (Array.getElem?_eq_getElem (by omega))⟩
      obtain ⟨q6, e6⟩ : ∃ q, wr.cell? ⟨g, k * 8 + 6, none⟩ = some q := ⟨_, (hd.cell (k * 8 + 6)).trans (Array.getElem?_eq_getElem (by omega))⟩
      obtain ⟨q7, e7⟩ : ∃ q, wr.cell? ⟨g, k * 8 + 7, none⟩ = some q := ⟨_, (hd.cell (k * 8 + 7)).trans (Array.getElem?_eq_getElem (by omega))⟩
      have hf : ∀ j, wr.frozen? ⟨g, j, none⟩ = false := hd.frozen
      have HD := Lib.hid hd
      have HDS := Lib.hid hds
      clear hd hds hz hg hmk hcs
      go_wp2_with fail
      go_roundw
      case rel =>
        have h2 := ((((((((HD.out.set_ (k * 8) (.int .i64 z)).set_ (k * 8 + 1) (.int .i64 (z + 1))).set_ (k * 8 + 2) (.int .i64 (z + 1 + 1))).set_ (k * 8 + 3) (.int .i64 (z + 1 + 1 + 1))).set_ (k * 8 + 4) (.int .i64 (z + 1 + 1 + 1 + 1))).set_ (k * 8 + 5) (.int .i64 (z + 1 + 1 + 1 + 1 + 1))).set_ (k * 8 + 6) (.int .i64 (z + 1 + 1 + 1 + 1 + 1 + 1))).set_ (k * 8 + 7) (.bool ((z + 1 + 1 + 1 + 1 + 1 + 1 + 1) % 3 == 0)))
        have hb := (gb_set (gb_set (gb_set (gb_set (gb_set (gb_set (gb_set (gb_set (gb_refl wr (some g)) (k * 8) (.int .i64 z)) (k * 8 + 1) (.int .i64 (z + 1))) (k * 8 + 2) (.int .i64 (z + 1 + 1))) (k * 8 + 3) (.int .i64 (z + 1 + 1 + 1))) (k * 8 + 4) (.int .i64 (z + 1 + 1 + 1 + 1))) (k * 8 + 5) (.int .i64 (z + 1 + 1 + 1 + 1 + 1))) (k * 8 + 6) (.int .i64 (z + 1 + 1 + 1 + 1 + 1 + 1))) (k * 8 + 7) (.bool ((z + 1 + 1 + 1 + 1 + 1 + 1 + 1) % 3 == 0)))
        refine ⟨k + 1, z + 1 + 1 + 1 + 1 + 1 + 1 + 1 + 1, by omega, by go_num, by have := HZ.out; omega, rfl, ⟨_, h2, by simp; exact HDS.out⟩, fun j hj => ?_, gb_trans HG.out hb⟩
        have hsz := HDS.out
        have hcs := HS.out
        by_cases hjk : j = k
        · subst hjk
          rw [h2.cell, h2.cell, h2.cell, h2.cell, h2.cell, h2.cell, h2.cell, h2.cell, ← HZ.out]
          have h8 : j * 8 + 8 ≤ ds.size := by omega
          rw [set8_at0 _ _ _ _ _ _ _ _ _ _ h8, set8_at1 _ _ _ _ _ _ _ _ _ _ h8, set8_at2 _ _ _ _ _ _ _ _ _ _ h8, set8_at3 _ _ _ _ _ _ _ _ _ _ h8, set8_at4 _ _ _ _ _ _ _ _ _ _ h8, set8_at5 _ _ _ _ _ _ _ _ _ _ h8, set8_at6 _ _ _ _ _ _ _ _ _ _ h8, set8_at7 _ _ _ _ _ _ _ _ _ _ h8]
          simp only [Int.add_assoc, Int.reduceAdd, and_self]
        · have ho := HM.out j (by omega)
          rw [HD.out.cell, HD.out.cell, HD.out.cell, HD.out.cell, HD.out.cell, HD.out.cell, HD.out.cell, HD.out.cell] at ho
          rw [h2.cell, h2.cell, h2.cell, h2.cell, h2.cell, h2.cell, h2.cell, h2.cell]
          rw [set8_off _ _ _ _ _ _ _ _ _ _ _ (by omega), set8_off _ _ _ _ _ _ _ _ _ _ _ (by omega), set8_off _ _ _ _ _ _ _ _ _ _ _ (by omega), set8_off _ _ _ _ _ _ _ _ _ _ _ (by omega), set8_off _ _ _ _ _ _ _ _ _ _ _ (by omega), set8_off _ _ _ _ _ _ _ _ _ _ _ (by omega), set8_off _ _ _ _ _ _ _ _ _ _ _ (by omega), set8_off _ _ _ _ _ _ _ _ _ _ _ (by omega)]
          exact ho
      case measure => simp [intOf]; omega
    · obtain rfl : n = k := by omega
      have HD := Lib.hid hd
      have HDS := Lib.hid hds
      clear hd hds hz hg hmk hcs
      go_wp2_with fail
      go_ret
      exact ⟨by rw [HZ.out]; rfl, HM.out, HG.out, ds, HD.out, HDS.out⟩
set_option maxRecDepth 20000 in
set_option maxHeartbeats 4000000 in
theorem markCellG_calls (g n cap : Nat) (m : Int) (t : TypeId) (cs : Array Value) (w : World) (hn : n ≤ 1048576) (hm0 : 0 ≤ m) (hm1 : m ≤ 1125899906842624) (hc : CellsAt w g t cs) (hs : n * 2 ≤ cs.size) :
    Calls Tryz.prog 84 #[.slice (some ⟨g, 0, none⟩) n cap, .int .i64 m] w fun e w' => e = .returned (.int .i64 (m + 2 * n)) ∧ MarkC w' g n m ∧ w.grownBy w' (some g) ∧ ∃ ds, CellsAt w' g t ds ∧ ds.size = cs.size := by
  have HC := Lib.hid hc
  have HS := Lib.hid hs
  clear hc hs
  go_enter Tryz.func84, Tryz.ntmps84
  go_wp2_with fail
  go_loopw [5, 1] (fun i t' u => ∃ k : Nat, ∃ z : Int, k ≤ n ∧ i = .int .i64 k ∧ z = m + 2 * k ∧ t' = .int .i64 z ∧ (∃ ds, CellsAt u g t ds ∧ ds.size = cs.size) ∧ MarkC u g k m ∧ w.grownBy u (some g)) (fun i _ _ => n - (intOf i).toNat)
  case atStart => exact ⟨0, m, by omega, rfl, by simp, rfl, ⟨cs, HC.out, rfl⟩, fun j hj => by omega, gb_refl _ _⟩
  case round =>
    obtain ⟨k, z, hk, rfl, hz, rfl, ⟨ds, hd, hds⟩, hmk, hg⟩ := hrel
    have HZ := Lib.hid hz
    have HG := Lib.hid hg
    have HM := Lib.hid hmk
    have hcs := HS.out
    have z0 : 0 ≤ z := by omega
    have z1 : z ≤ 1125899923619840 := by omega
    by_cases hlt : k < n
    · have hlt' : (k : Int) < n := by omega
      obtain ⟨q0, e0⟩ : ∃ q, wr.cell? ⟨g, k * 2, none⟩ = some q := ⟨_, (hd.cell (k * 2)).trans (Array.getElem?_eq_getElem (by omega))⟩
      obtain ⟨q1, e1⟩ : ∃ q, wr.cell? ⟨g, k * 2 + 1, none⟩ = some q := ⟨_, (hd.cell (k * 2 + 1)).trans (Array.getElem?_eq_getElem (by omega))⟩
      have hf : ∀ j, wr.frozen? ⟨g, j, none⟩ = false := hd.frozen
      have HD := Lib.hid hd
      have HDS := Lib.hid hds
      clear hd hds hz hg hmk hcs
      go_wp2_with fail
      go_roundw
      case rel =>
        have h2 := (HD.out.set_ (k * 2) (.int .i64 z)).set_ (k * 2 + 1) (.int .i64 (z + 1))
        have hb := gb_set (gb_set (gb_refl wr (some g)) (k * 2) (.int .i64 z)) (k * 2 + 1) (.int .i64 (z + 1))
        refine ⟨k + 1, z + 1 + 1, by omega, by go_num, by have := HZ.out; omega, rfl, ⟨_, h2, by simp; exact HDS.out⟩, fun j hj => ?_, gb_trans HG.out hb⟩
        have hsz := HDS.out
        have hcs := HS.out
        by_cases hjk : j = k
        · subst hjk
          rw [h2.cell, h2.cell, ← HZ.out]
          constructor
          · rw [Array.getElem?_setIfInBounds_ne (by omega), Array.getElem?_setIfInBounds_self_of_lt (by omega)]
          · rw [Array.getElem?_setIfInBounds_self_of_lt (by simp; omega)]
        · have ho := HM.out j (by omega)
          rw [HD.out.cell, HD.out.cell] at ho
          rw [h2.cell, h2.cell]
          constructor
          · rw [Array.getElem?_setIfInBounds_ne (by omega), Array.getElem?_setIfInBounds_ne (by omega)]; exact ho.1
          · rw [Array.getElem?_setIfInBounds_ne (by omega), Array.getElem?_setIfInBounds_ne (by omega)]; exact ho.2
      case measure => simp [intOf]; omega
    · obtain rfl : n = k := by omega
      have HD := Lib.hid hd
      have HDS := Lib.hid hds
      clear hd hds hz hg hmk hcs
      go_wp2_with fail
      go_ret
      exact ⟨by rw [HZ.out]; rfl, HM.out, HG.out, ds, HD.out, HDS.out⟩
set_option maxRecDepth 20000 in
set_option maxHeartbeats 4000000 in
theorem heldTrustG_calls (g n cap : Nat) (m : Int) (w : World) (hn : n ≤ 1048576) (hm0 : 0 ≤ m) (hm1 : m ≤ 1125899906842624) (hc : MarkT w g n m) :
    Calls Tryz.prog 87 #[.slice (some ⟨g, 0, none⟩) n cap, .int .i64 m] w fun e w' => e = .returned (.int .i64 (m + 8 * n)) ∧ w = w' := by
  have HC := Lib.hid hc
  clear hc
  go_enter Tryz.func87, Tryz.ntmps87
  go_wp2_with fail
  go_loop [5, 1] (fun i t' => ∃ k : Nat, ∃ z : Int, k ≤ n ∧ i = .int .i64 k ∧ z = m + 8 * k ∧ t' = .int .i64 z) (fun i _ => n - (intOf i).toNat)
  case atStart => exact ⟨0, m, by omega, rfl, by simp, rfl⟩
  case round =>
    obtain ⟨k, z, hk, rfl, hz, rfl⟩ := hrel
    have z0 : 0 ≤ z := by omega
    have z1 : z ≤ 1125899923619840 := by omega
    by_cases hlt : k < n
    · have hlt' : (k : Int) < n := by omega
      have hc := HC.out k hlt
      rw [← hz] at hc
      obtain ⟨c0, c1, c2, c3, c4, c5, c6, c7⟩ := hc
      rw [show z + 2 = z + 1 + 1 by omega] at c2
      rw [show z + 3 = z + 1 + 1 + 1 by omega] at c3
      rw [show z + 4 = z + 1 + 1 + 1 + 1 by omega] at c4
      rw [show z + 5 = z + 1 + 1 + 1 + 1 + 1 by omega] at c5
      rw [show z + 6 = z + 1 + 1 + 1 + 1 + 1 + 1 by omega] at c6
      rw [show z + 7 = z + 1 + 1 + 1 + 1 + 1 + 1 + 1 by omega] at c7
      have HZ := Lib.hid hz
      clear hz
      go_wp2_with fail
      go_round
      case rel => exact ⟨k + 1, z + 1 + 1 + 1 + 1 + 1 + 1 + 1 + 1, by omega, by go_num, by have := HZ.out; omega, rfl⟩
      case measure => simp [intOf]; omega
    · obtain rfl : n = k := by omega
      have HZ := Lib.hid hz
      clear hz
      go_wp2_with fail
      go_ret
      exact ⟨by rw [HZ.out]; rfl, rfl⟩
set_option maxRecDepth 20000 in
set_option maxHeartbeats 4000000 in
theorem heldCellG_calls (g n cap : Nat) (m : Int) (w : World) (hn : n ≤ 1048576) (hm0 : 0 ≤ m) (hm1 : m ≤ 1125899906842624) (hc : MarkC w g n m) :
    Calls Tryz.prog 88 #[.slice (some ⟨g, 0, none⟩) n cap, .int .i64 m] w fun e w' => e = .returned (.int .i64 (m + 2 * n)) ∧ w = w' := by
  have HC := Lib.hid hc
  clear hc
  go_enter Tryz.func88, Tryz.ntmps88
  go_wp2_with fail
  go_loop [5, 1] (fun i t' => ∃ k : Nat, ∃ z : Int, k ≤ n ∧ i = .int .i64 k ∧ z = m + 2 * k ∧ t' = .int .i64 z) (fun i _ => n - (intOf i).toNat)
  case atStart => exact ⟨0, m, by omega, rfl, by simp, rfl⟩
  case round =>
    obtain ⟨k, z, hk, rfl, hz, rfl⟩ := hrel
    have z0 : 0 ≤ z := by omega
    have z1 : z ≤ 1125899923619840 := by omega
    by_cases hlt : k < n
    · have hlt' : (k : Int) < n := by omega
      have hc := HC.out k hlt
      rw [← hz] at hc
      obtain ⟨c0, c1⟩ := hc
      have HZ := Lib.hid hz
      clear hz
      go_wp2_with fail
      go_round
      case rel => exact ⟨k + 1, z + 1 + 1, by omega, by go_num, by have := HZ.out; omega, rfl⟩
      case measure => simp [intOf]; omega
    · obtain rfl : n = k := by omega
      have HZ := Lib.hid hz
      clear hz
      go_wp2_with fail
      go_ret
      exact ⟨by rw [HZ.out]; rfl, rfl⟩
def MarkN (w : World) (g n : Nat) (m : Int) : Prop := ∀ j, j < n → w.cell? ⟨g, j, none⟩ = some (.int .i64 (m + j))
theorem MarkN.block {w u : World} {g n : Nat} {m : Int} (h : MarkN w g n m) (hb : u.heap[g]? = w.heap[g]?) : MarkN u g n m := by
  have f : ∀ o, u.cell? ⟨g, o, none⟩ = w.cell? ⟨g, o, none⟩ := fun o => by simp [World.cell?, hb]
  exact fun j hj => (f _).trans (h j hj)
set_option maxRecDepth 20000 in
set_option maxHeartbeats 4000000 in
theorem markInt64G_calls (g n cap : Nat) (m : Int) (t : TypeId) (cs : Array Value) (w : World) (hn : n ≤ 1048576) (hm0 : 0 ≤ m) (hm1 : m ≤ 1125899906842624) (hc : CellsAt w g t cs) (hs : n ≤ cs.size) :
    Calls Tryz.prog 145 #[.slice (some ⟨g, 0, none⟩) n cap, .int .i64 m] w fun e w' => e = .returned (.int .i64 (m + n)) ∧ MarkN w' g n m ∧ w.grownBy w' (some g) ∧ ∃ ds, CellsAt w' g t ds ∧ ds.size = cs.size := by
  have HC := Lib.hid hc
  have HS := Lib.hid hs
  clear hc hs
  go_enter Tryz.func145, Tryz.ntmps145
  go_wp2_with fail
  go_loopw [5, 1] (fun i t' u => ∃ k : Nat, ∃ z : Int, k ≤ n ∧ i = .int .i64 k ∧ z = m + k ∧ t' = .int .i64 z ∧ (∃ ds, CellsAt u g t ds ∧ ds.size = cs.size) ∧ MarkN u g k m ∧ w.grownBy u (some g)) (fun i _ _ => n - (intOf i).toNat)
  case atStart => exact ⟨0, m, by omega, rfl, by simp, rfl, ⟨cs, HC.out, rfl⟩, fun j hj => by omega, gb_refl _ _⟩
  case round =>
    obtain ⟨k, z, hk, rfl, hz, rfl, ⟨ds, hd, hds⟩, hmk, hg⟩ := hrel
    have HZ := Lib.hid hz
    have HG := Lib.hid hg
    have HM := Lib.hid hmk
    have hcs := HS.out
    have z0 : 0 ≤ z := by omega
    have z1 : z ≤ 1125899923619840 := by omega
    by_cases hlt : k < n
    · have hlt' : (k : Int) < n := by omega
      obtain ⟨q0, e0⟩ : ∃ q, wr.cell? ⟨g, k, none⟩ = some q := ⟨_, (hd.cell k).trans (Array.getElem?_eq_getElem (by omega))⟩
      have hf : ∀ j, wr.frozen? ⟨g, j, none⟩ = false := hd.frozen
      have HD := Lib.hid hd
      have HDS := Lib.hid hds
      clear hd hds hz hg hmk hcs
      go_wp2_with fail
      go_roundw
      case rel =>
        have h2 := HD.out.set_ k (.int .i64 z)
        have hb := gb_set (gb_refl wr (some g)) k (.int .i64 z)
        refine ⟨k + 1, z + 1, by omega, by go_num, by have := HZ.out; omega, rfl, ⟨_, h2, by simp; exact HDS.out⟩, fun j hj => ?_, gb_trans HG.out hb⟩
        have hsz := HDS.out
        have hcs := HS.out
        by_cases hjk : j = k
        · subst hjk
          rw [h2.cell, ← HZ.out, Array.getElem?_setIfInBounds_self_of_lt (by omega)]
        · have ho := HM.out j (by omega)
          rw [HD.out.cell] at ho
          rw [h2.cell, Array.getElem?_setIfInBounds_ne (by omega)]; exact ho
      case measure => simp [intOf]; omega
    · obtain rfl : n = k := by omega
      have HD := Lib.hid hd
      have HDS := Lib.hid hds
      clear hd hds hz hg hmk hcs
      go_wp2_with fail
      go_ret
      exact ⟨by rw [HZ.out]; rfl, HM.out, HG.out, ds, HD.out, HDS.out⟩
set_option maxRecDepth 20000 in
set_option maxHeartbeats 4000000 in
theorem heldInt64G_calls (g n cap : Nat) (m : Int) (w : World) (hn : n ≤ 1048576) (hm0 : 0 ≤ m) (hm1 : m ≤ 1125899906842624) (hc : MarkN w g n m) :
    Calls Tryz.prog 146 #[.slice (some ⟨g, 0, none⟩) n cap, .int .i64 m] w fun e w' => e = .returned (.int .i64 (m + n)) ∧ w = w' := by
  have HC := Lib.hid hc
  clear hc
  go_enter Tryz.func146, Tryz.ntmps146
  go_wp2_with fail
  go_loop [5, 1] (fun i t' => ∃ k : Nat, ∃ z : Int, k ≤ n ∧ i = .int .i64 k ∧ z = m + k ∧ t' = .int .i64 z) (fun i _ => n - (intOf i).toNat)
  case atStart => exact ⟨0, m, by omega, rfl, by simp, rfl⟩
  case round =>
    obtain ⟨k, z, hk, rfl, hz, rfl⟩ := hrel
    have z0 : 0 ≤ z := by omega
    have z1 : z ≤ 1125899923619840 := by omega
    by_cases hlt : k < n
    · have hlt' : (k : Int) < n := by omega
      have hc := HC.out k hlt
      rw [← hz] at hc
      have HZ := Lib.hid hz
      clear hz
      go_wp2_with fail
      go_round
      case rel => exact ⟨k + 1, z + 1, by omega, by go_num, by have := HZ.out; omega, rfl⟩
      case measure => simp [intOf]; omega
    · obtain rfl : n = k := by omega
      have HZ := Lib.hid hz
      clear hz
      go_wp2_with fail
      go_ret
      exact ⟨by rw [HZ.out]; rfl, rfl⟩
theorem markInt64S_nil (A : Option Addr) (c : Nat) (m : Int) (w : World) : Calls Tryz.prog 145 #[.slice A 0 c, .int .i64 m] w fun e w' => e = .returned (.int .i64 m) ∧ w = w' := by
  go_enter Tryz.func145, Tryz.ntmps145
  go_wp2_with fail
  go_loop [5, 1] (fun i t => i = .int .i64 0 ∧ t = .int .i64 m) (fun _ _ => 0)
  case atStart => exact ⟨rfl, rfl⟩
  case round =>
    obtain ⟨rfl, rfl⟩ := hrel
    go_wp2_with fail
    go_ret
    exact ⟨rfl, rfl⟩
theorem heldInt64S_nil (A : Option Addr) (c : Nat) (m : Int) (w : World) : Calls Tryz.prog 146 #[.slice A 0 c, .int .i64 m] w fun e w' => e = .returned (.int .i64 m) ∧ w = w' := by
  go_enter Tryz.func146, Tryz.ntmps146
  go_wp2_with fail
  go_loop [5, 1] (fun i t => i = .int .i64 0 ∧ t = .int .i64 m) (fun _ _ => 0)
  case atStart => exact ⟨rfl, rfl⟩
  case round =>
    obtain ⟨rfl, rfl⟩ := hrel
    go_wp2_with fail
    go_ret
    exact ⟨rfl, rfl⟩
theorem markCellS_nil (A : Option Addr) (c : Nat) (m : Int) (w : World) : Calls Tryz.prog 84 #[.slice A 0 c, .int .i64 m] w fun e w' => e = .returned (.int .i64 m) ∧ w = w' := by
  go_enter Tryz.func84, Tryz.ntmps84
  go_wp2_with fail
  go_loop [5, 1] (fun i t => i = .int .i64 0 ∧ t = .int .i64 m) (fun _ _ => 0)
  case atStart => exact ⟨rfl, rfl⟩
  case round =>
    obtain ⟨rfl, rfl⟩ := hrel
    go_wp2_with fail
    go_ret
    exact ⟨rfl, rfl⟩
theorem heldCellS_nil (A : Option Addr) (c : Nat) (m : Int) (w : World) : Calls Tryz.prog 88 #[.slice A 0 c, .int .i64 m] w fun e w' => e = .returned (.int .i64 m) ∧ w = w' := by
  go_enter Tryz.func88, Tryz.ntmps88
  go_wp2_with fail
  go_loop [5, 1] (fun i t => i = .int .i64 0 ∧ t = .int .i64 m) (fun _ _ => 0)
  case atStart => exact ⟨rfl, rfl⟩
  case round =>
    obtain ⟨rfl, rfl⟩ := hrel
    go_wp2_with fail
    go_ret
    exact ⟨rfl, rfl⟩
def HeldN (w : World) (v : Value) (n : Nat) (m : Int) : Prop := (∃ g c, v = .slice (some ⟨g, 0, none⟩) n c ∧ g < w.heap.size ∧ MarkN w g n m) ∨ (n = 0 ∧ ∃ A c, v = .slice A 0 c)
theorem HeldN.below {u w : World} {v : Value} {n : Nat} {m : Int} (h : HeldN u v n m) (hb : Below u.heap.size u w) : HeldN w v n m := by
  rcases h with ⟨g, c, e, hg, hm⟩ | h
  · exact .inl ⟨g, c, e, Nat.lt_of_lt_of_le hg hb.size, hm.block (hb.block g hg)⟩
  · exact .inr h
theorem markN_own (v : Value) (l : List Int) (base : Nat) (m : Int) (w : World) (hn : l.length ≤ 1048576) (hm0 : 0 ≤ m) (hm1 : m ≤ 1125899906842624) (hr : IRow w base v l) :
    Calls Tryz.prog 145 #[v, .int .i64 m] w fun e w' => e = .returned (.int .i64 (m + l.length)) ∧ HeldN w' v l.length m ∧ w.grownBy w' v.ownBlock := by
  rcases hr.2 with ⟨rfl, h0⟩ | ⟨g, cap, cur, rfl, hb, hg, hnc, hcm, hcs, htake⟩
  · refine (markInt64S_nil none 0 m w).mono ?_
    rintro e w' ⟨rfl, rfl⟩
    rw [h0]
    exact ⟨by simp, .inr ⟨rfl, _, _, rfl⟩, gb_refl _ _⟩
  · refine (markInt64G_calls g l.length cap m _ cur w hn hm0 hm1 hg (by rw [hcs]; omega)).mono ?_
    rintro e w' ⟨rfl, hm, hgb, -⟩
    exact ⟨rfl, .inl ⟨g, cap, rfl, Nat.lt_of_lt_of_le (Array.getElem?_eq_some_iff.1 hg).1 hgb.size, hm⟩, hgb⟩
theorem heldN_own (v : Value) (n : Nat) (m : Int) (w : World) (hn : n ≤ 1048576) (hm0 : 0 ≤ m) (hm1 : m ≤ 1125899906842624) (hr : HeldN w v n m) :
    Calls Tryz.prog 146 #[v, .int .i64 m] w fun e w' => e = .returned (.int .i64 (m + n)) ∧ w = w' := by
  rcases hr with ⟨g, c, rfl, hg, hm⟩ | ⟨rfl, A, c, rfl⟩
  · exact heldInt64G_calls g n c m w hn hm0 hm1 hm
  · refine (heldInt64S_nil A c m w).mono ?_
    rintro e w' ⟨rfl, rfl⟩
    exact ⟨by simp, rfl⟩
def HeldTr (w : World) (v : Value) (n : Nat) (m : Int) : Prop := (∃ g c, v = .slice (some ⟨g, 0, none⟩) n c ∧ g < w.heap.size ∧ MarkT w g n m) ∨ (n = 0 ∧ ∃ A c, v = .slice A 0 c)
theorem HeldTr.below {u w : World} {v : Value} {n : Nat} {m : Int} (h : HeldTr u v n m) (hb : Below u.heap.size u w) : HeldTr w v n m := by
  rcases h with ⟨g, c, e, hg, hm⟩ | h
  · exact .inl ⟨g, c, e, Nat.lt_of_lt_of_le hg hb.size, hm.block (hb.block g hg)⟩
  · exact .inr h
theorem markTr_own (v : Value) (l : List Tru) (base : Nat) (m : Int) (w : World) (hn : l.length ≤ 1048576) (hm0 : 0 ≤ m) (hm1 : m ≤ 1125899906842624) (hr : TrRow w base v l) :
    Calls Tryz.prog 83 #[v, .int .i64 m] w fun e w' => e = .returned (.int .i64 (m + 8 * l.length)) ∧ HeldTr w' v l.length m ∧ w.grownBy w' v.ownBlock := by
  rcases hr.2 with ⟨rfl, h0⟩ | ⟨g, cap, cur, rfl, hb, hg, hnc, hcm, hcs, htake⟩
  · refine (markTrustS_nil none 0 m w).mono ?_
    rintro e w' ⟨rfl, rfl⟩
    rw [h0]
    exact ⟨by simp, .inr ⟨rfl, _, _, rfl⟩, gb_refl _ _⟩
  · refine (markTrustG_calls g l.length cap m _ cur w hn hm0 hm1 hg (by rw [hcs]; exact Nat.mul_le_mul_right 8 hnc)).mono ?_
    rintro e w' ⟨rfl, hm, hgb, -⟩
    exact ⟨rfl, .inl ⟨g, cap, rfl, Nat.lt_of_lt_of_le (Array.getElem?_eq_some_iff.1 hg).1 hgb.size, hm⟩, hgb⟩
theorem heldTr_own (v : Value) (n : Nat) (m : Int) (w : World) (hn : n ≤ 1048576) (hm0 : 0 ≤ m) (hm1 : m ≤ 1125899906842624) (hr : HeldTr w v n m) :
    Calls Tryz.prog 87 #[v, .int .i64 m] w fun e w' => e = .returned (.int .i64 (m + 8 * n)) ∧ w = w' := by
  rcases hr with ⟨g, c, rfl, hg, hm⟩ | ⟨rfl, A, c, rfl⟩
  · exact heldTrustG_calls g n c m w hn hm0 hm1 hm
  · refine (heldTrustS_nil A c m w).mono ?_
    rintro e w' ⟨rfl, rfl⟩
    exact ⟨by simp, rfl⟩
def HeldC (w : World) (v : Value) (n : Nat) (m : Int) : Prop := (∃ g c, v = .slice (some ⟨g, 0, none⟩) n c ∧ g < w.heap.size ∧ MarkC w g n m) ∨ (n = 0 ∧ ∃ A c, v = .slice A 0 c)
theorem HeldC.below {u w : World} {v : Value} {n : Nat} {m : Int} (h : HeldC u v n m) (hb : Below u.heap.size u w) : HeldC w v n m := by
  rcases h with ⟨g, c, e, hg, hm⟩ | h
  · exact .inl ⟨g, c, e, Nat.lt_of_lt_of_le hg hb.size, hm.block (hb.block g hg)⟩
  · exact .inr h
theorem markC_own (v : Value) (l : List Ce) (base : Nat) (m : Int) (w : World) (hn : l.length ≤ 1048576) (hm0 : 0 ≤ m) (hm1 : m ≤ 1125899906842624) (hr : ClRow w base v l) :
    Calls Tryz.prog 84 #[v, .int .i64 m] w fun e w' => e = .returned (.int .i64 (m + 2 * l.length)) ∧ HeldC w' v l.length m ∧ w.grownBy w' v.ownBlock := by
  rcases hr.2 with ⟨rfl, h0⟩ | ⟨g, cap, cur, rfl, hb, hg, hnc, hcm, hcs, htake⟩
  · refine (markCellS_nil none 0 m w).mono ?_
    rintro e w' ⟨rfl, rfl⟩
    rw [h0]
    exact ⟨by simp, .inr ⟨rfl, _, _, rfl⟩, gb_refl _ _⟩
  · refine (markCellG_calls g l.length cap m _ cur w hn hm0 hm1 hg (by rw [hcs]; exact Nat.mul_le_mul_right 2 hnc)).mono ?_
    rintro e w' ⟨rfl, hm, hgb, -⟩
    exact ⟨rfl, .inl ⟨g, cap, rfl, Nat.lt_of_lt_of_le (Array.getElem?_eq_some_iff.1 hg).1 hgb.size, hm⟩, hgb⟩
theorem heldC_own (v : Value) (n : Nat) (m : Int) (w : World) (hn : n ≤ 1048576) (hm0 : 0 ≤ m) (hm1 : m ≤ 1125899906842624) (hr : HeldC w v n m) :
    Calls Tryz.prog 88 #[v, .int .i64 m] w fun e w' => e = .returned (.int .i64 (m + 2 * n)) ∧ w = w' := by
  rcases hr with ⟨g, c, rfl, hg, hm⟩ | ⟨rfl, A, c, rfl⟩
  · exact heldCellG_calls g n c m w hn hm0 hm1 hm
  · refine (heldCellS_nil A c m w).mono ?_
    rintro e w' ⟨rfl, rfl⟩
    exact ⟨by simp, rfl⟩
theorem CellsAt.off_ {w : World} {g p : Nat} {t : TypeId} {cs : Array Value} (h : CellsAt w g t cs) (hne : p ≠ g) (o : Nat) (v : Value) : CellsAt (w.setCell ⟨p, o, none⟩ v) g t cs := h.grown (gb_set (gb_refl w (some p)) o v) (by intro e; injection e with e; exact hne e.symm)
theorem toTrusts_own (A : Option Addr) (L : List Tru) (cap : Nat) (w : World) (hn : L.length ≤ 1048576) (hA : Trs w w.heap.size A L) :
    Calls Tryz.prog 75 #[.slice A L.length cap] w fun e w' => ∃ g, e = .returned (.slice (some ⟨g, 0, none⟩) L.length L.length) ∧ w.heap.size ≤ g ∧ g < w'.heap.size ∧ Trs w' w'.heap.size (some ⟨g, 0, none⟩) L ∧ (∃ cs, CellsAt w' g 80 cs ∧ L.length * 8 ≤ cs.size) ∧ Below w.heap.size w w' := by
  refine (toTrustS_calls A L cap w hn hA).mono ?_
  rintro e w' ⟨rfl, hb, hlt, hr⟩
  refine ⟨_, rfl, Nat.le_refl _, hlt, (sls_TrustS hr).more hlt, ?_, hb⟩
  obtain ⟨cs, h1, h2, h3⟩ := hr
  exact ⟨cs, h1, by omega⟩
theorem szSeal_calls (cnt mac : Int) (A : Option Addr) (n cap : Nat) (left : Int) (w : World) (h0 : 0 ≤ left) (h1 : left ≤ 1048576) (hn : n ≤ maxLen) :
    Calls Tryz.prog 188 #[.agg #[.int .i64 cnt, .slice A n cap, .int .i64 mac], .int .i64 left] w fun e w' => e = .returned (.int .i64 (if (n : Int) ≤ left then left - n else -1)) ∧ Below w.heap.size w w' := by
  have B := Lib.hid (box_below w (.cells #[.int .i64 cnt, .slice A n cap, .int .i64 mac] 149))
  have C := Lib.hid (fun u => szTrustS_calls A n cap left u h0 h1 hn)
  by_cases h : (n : Int) ≤ left
  · rw [if_pos h] at C ⊢
    have h2 : ¬ left - n < 0 := by omega
    clear h h0 h1 hn
    go_enter Tryz.func188, Tryz.ntmps188
    go_wp2_with fail
    refine (C.out _).mono ?_; rintro e w' ⟨rfl, rfl⟩
    go_wp2_with fail
    go_ret
    exact ⟨rfl, B.out⟩
  · rw [if_neg h] at C ⊢
    clear h h0 h1 hn
    go_enter Tryz.func188, Tryz.ntmps188
    go_wp2_with fail
    refine (C.out _).mono ?_; rintro e w' ⟨rfl, rfl⟩
    go_wp2_with fail
    go_ret
    exact ⟨rfl, B.out⟩
set_option maxRecDepth 20000 in
set_option maxHeartbeats 4000000 in
theorem eqSeal_same (cnt mac : Int) (A C : Option Addr) (L : List Tru) (c c' : Nat) (w : World) (hn : L.length ≤ maxLen) (hA : Trs w w.heap.size A L) (hC : Trs w w.heap.size C L) :
    Calls Tryz.prog 190 #[.agg #[.int .i64 cnt, .slice A L.length c, .int .i64 mac], .agg #[.int .i64 cnt, .slice C L.length c', .int .i64 mac]] w fun e w' => e = .returned (.bool true) ∧ Below w.heap.size w w' := by
  have K0 := Lib.hid (show Kept w [(w.heap.size + 1, 75, #[.int .i64 cnt, .slice C L.length c', .int .i64 mac]), (w.heap.size, 75, #[.int .i64 cnt, .slice A L.length c, .int .i64 mac])] _ from (((Kept.refl w).put1 _ _ #[.int .i64 cnt, .slice A L.length c, .int .i64 mac] rfl).put1 _ _ #[.int .i64 cnt, .slice C L.length c', .int .i64 mac] (by simp)))
  have E := Lib.hid (fun u (hb : Below w.heap.size w u) => eqTrustS_same A C L c c' u hn ((hA.below hb (Nat.le_refl _)).more hb.size) ((hC.below hb (Nat.le_refl _)).more hb.size))
  clear hA hC hn
  go_enter Tryz.func190, Tryz.ntmps190
  go_wp2_with fail
  refine (E.out _ K0.out.1).mono ?_; rintro e w1 ⟨rfl, b1⟩
  have h1 := K0.out.below b1
  clear b1 K0 E
  obtain ⟨kc0, kf0, kc1, kf1, -⟩ := h1.rd
  have H1 := Lib.hid h1
  clear h1
  go_wp2_with fail
  go_ret
  exact ⟨rfl, H1.out.1⟩
set_option maxRecDepth 20000 in
set_option maxHeartbeats 4000000 in
theorem toSeal_own (cnt mac : Int) (A : Option Addr) (L : List Tru) (c : Nat) (w : World) (hn : L.length ≤ 1048576) (hA : Trs w w.heap.size A L) :
    Calls Tryz.prog 189 #[.agg #[.int .i64 cnt, .slice A L.length c, .int .i64 mac]] w fun e w' => ∃ g, e = .returned (.agg #[.int .i64 cnt, .slice (some ⟨g, 0, none⟩) L.length L.length, .int .i64 mac]) ∧ w.heap.size ≤ g ∧ Trs w' w'.heap.size (some ⟨g, 0, none⟩) L ∧ (∃ cs, CellsAt w' g 80 cs ∧ L.length * 8 ≤ cs.size) ∧ Below w.heap.size w w' := by
  have K0 := Lib.hid (show Kept w [(w.heap.size + 1 + 1, 75, #[.int .i64 cnt, .slice none 0 0, .int .i64 0]), (w.heap.size + 1, 75, #[.int .i64 0, .slice none 0 0, .int .i64 0]), (w.heap.size, 149, #[.int .i64 cnt, .slice A L.length c, .int .i64 mac])] _ from ((((Kept.refl w).put1 _ _ #[.int .i64 cnt, .slice A L.length c, .int .i64 mac] rfl).put1 _ _ #[.int .i64 0, .slice none 0 0, .int .i64 0] (by simp)).put1 _ _ #[.int .i64 cnt, .slice none 0 0, .int .i64 0] (by simp)))
  have T := Lib.hid (fun u (hb : Below w.heap.size w u) => toTrusts_own A L c u hn ((hA.below hb (Nat.le_refl _)).more hb.size))
  clear hA hn
  go_enter Tryz.func189, Tryz.ntmps189
  go_wp2_with fail
  refine (T.out _ K0.out.1).mono ?_; rintro e w1 ⟨g, rfl, hg0, hg1, ht, hsh, b1⟩
  have h1 := K0.out.below b1
  have HSH := Lib.hid hsh
  clear hsh
  have hg2 : w.heap.size + 1 + 1 < g := Nat.lt_of_lt_of_le (by simp <;> omega) hg0
  clear b1 hg0 T K0
  obtain ⟨kc0, kf0, kc1, kf1, kc2, kf2, -⟩ := h1.rd
  have H1 := Lib.hid h1
  have HT := Lib.hid ht
  have G2 := Lib.hid hg2
  clear h1 ht hg2
  go_wp2_with fail
  have k2 := (H1.out.set (by intro x hx; simp at hx; rcases hx with rfl | rfl <;> simp <;> omega) 1 (.slice (some ⟨g, 0, none⟩) L.length L.length)).set (by intro x hx; simp at hx; rcases hx with rfl | rfl <;> simp <;> omega) 2 (.int .i64 mac)
  have k3 := ((k2.tail.set (by intro x hx; simp at hx; subst hx; simp) 0 (.int .i64 cnt)).set (by intro x hx; simp at hx; subst hx; simp) 1 (.slice (some ⟨g, 0, none⟩) L.length L.length)).set (by intro x hx; simp at hx; subst hx; simp) 2 (.int .i64 mac)
  have ht3 : Trs (((((w1.setCell ⟨w.heap.size + 1 + 1, 1, none⟩ (.slice (some ⟨g, 0, none⟩) L.length L.length)).setCell ⟨w.heap.size + 1 + 1, 2, none⟩ (.int .i64 mac)).setCell ⟨w.heap.size + 1, 0, none⟩ (.int .i64 cnt)).setCell ⟨w.heap.size + 1, 1, none⟩ (.slice (some ⟨g, 0, none⟩) L.length L.length)).setCell ⟨w.heap.size + 1, 2, none⟩ (.int .i64 mac)) w1.heap.size (some ⟨g, 0, none⟩) L := by
    have hg := G2.out
    intro i hi
    obtain ⟨b, off, e, hb, hc⟩ := HT.out i hi
    injection e with e
    injection e with e1 e2 e3
    subst e1
    refine ⟨_, off, by rw [e2], hb, fun j hj => ?_⟩
    rw [← hc j hj]
    unfold World.cell?
    rw [Below.heap_setCell _ _ _ _ (by simp; omega), Below.heap_setCell _ _ _ _ (by simp; omega), Below.heap_setCell _ _ _ _ (by simp; omega), Below.heap_setCell _ _ _ _ (by simp; omega), Below.heap_setCell _ _ _ _ (by simp; omega)]
  have hsz : w1.heap.size ≤ (((((w1.setCell ⟨w.heap.size + 1 + 1, 1, none⟩ (.slice (some ⟨g, 0, none⟩) L.length L.length)).setCell ⟨w.heap.size + 1 + 1, 2, none⟩ (.int .i64 mac)).setCell ⟨w.heap.size + 1, 0, none⟩ (.int .i64 cnt)).setCell ⟨w.heap.size + 1, 1, none⟩ (.slice (some ⟨g, 0, none⟩) L.length L.length)).setCell ⟨w.heap.size + 1, 2, none⟩ (.int .i64 mac)).heap.size := by simp
  have hs4 : ∃ cs, CellsAt (((((w1.setCell ⟨w.heap.size + 1 + 1, 1, none⟩ (.slice (some ⟨g, 0, none⟩) L.length L.length)).setCell ⟨w.heap.size + 1 + 1, 2, none⟩ (.int .i64 mac)).setCell ⟨w.heap.size + 1, 0, none⟩ (.int .i64 cnt)).setCell ⟨w.heap.size + 1, 1, none⟩ (.slice (some ⟨g, 0, none⟩) L.length L.length)).setCell ⟨w.heap.size + 1, 2, none⟩ (.int .i64 mac)) g 80 cs ∧ L.length * 8 ≤ cs.size := by
    obtain ⟨cs, h1, h2⟩ := HSH.out
    have hg := G2.out
    exact ⟨cs, ((((h1.off_ (by omega) 1 _).off_ (by omega) 2 _).off_ (by omega) 0 _).off_ (by omega) 1 _).off_ (by omega) 2 _, h2⟩
  generalize World.setCell _ _ _ = w4 at k3 ht3 hsz hs4 ⊢
  have d0 : w4.cell? ⟨w.heap.size + 1, 0, none⟩ = some (.int .i64 cnt) := k3.cell (List.mem_cons_self ..) 0
  have d1 : w4.cell? ⟨w.heap.size + 1, 1, none⟩ = some (.slice (some ⟨g, 0, none⟩) L.length L.length) := k3.cell (List.mem_cons_self ..) 1
  have d2 : w4.cell? ⟨w.heap.size + 1, 2, none⟩ = some (.int .i64 mac) := k3.cell (List.mem_cons_self ..) 2
  exact bodyPost_ret (v := .agg #[.int .i64 cnt, .slice (some ⟨g, 0, none⟩) L.length L.length, .int .i64 mac]) (by simp [results, Tryz.results189, go_sem, d0, d1, d2]) rfl ⟨g, rfl, by have := G2.out; omega, ht3.more hsz, hs4, k3.1⟩
end Go.Proofs.YtgaecedhkbneaaaGreatDoor.Mx

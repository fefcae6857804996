import Derived.Test.YteoijmejhdocdaaGreatDoorG07
import Derived.Test.YteoijmejhdocdaaGreatDoorG04
namespace Go.Proofs.YteoijmejhdocdaaGreatDoor.Mx
open Go.ChangeShapes Go.WideShapes Go.ChangeAt Go.RowKit
set_option linter.unusedVariables false
theorem seal_end {w w1 : World} {r : Nat} {t : TypeId} {x y z x0 y0 z0 : Value} (hk : CellsAt w1 r t #[x0, y0, z0]) (hb : Below w.heap.size w w1) (hr : w.heap.size ≤ r) :
    ∃ w4, ((w1.setCell ⟨r, 0, none⟩ x).setCell ⟨r, 1, none⟩ y).setCell ⟨r, 2, none⟩ z = w4 ∧ (w4.cell? ⟨r, 0, none⟩ = some x ∧ w4.cell? ⟨r, 1, none⟩ = some y ∧ w4.cell? ⟨r, 2, none⟩ = some z) ∧ Below w.heap.size w w4 ∧ w1.grownBy w4 (some r) := by
  have h := ((hk.set_ 0 x).set_ 1 y).set_ 2 z
  exact ⟨_, rfl, ⟨h.cell 0, h.cell 1, h.cell 2⟩, ((hb.setCell (p := ⟨r, 0, none⟩) hr x).setCell (p := ⟨r, 1, none⟩) hr y).setCell (p := ⟨r, 2, none⟩) hr z, gb_set (gb_set (gb_set (gb_refl _ _) 0 x) 1 y) 2 z⟩
def NewSe (b : World) (cnt : Int) (L : List Tru) (mac : Int) (e : Ending) (w' : World) : Prop := ∃ A c, e = .returned (.agg #[.int .i64 cnt, .slice A L.length c, .int .i64 mac]) ∧ TrRow w' b.heap.size (.slice A L.length c) L ∧ Below b.heap.size b w'
set_option maxRecDepth 20000 in
set_option maxHeartbeats 2000000 in
theorem l10Seal_calls (cnt : Int) (B : Option Addr) (L : List Tru) (tc : Nat) (mac : Int) (w : World) (hN : L.length ≤ 1048576) (hB : Trs w w.heap.size B L) :
    Calls Tryz.prog 224 #[.agg #[.int .i64 cnt, .slice B L.length tc, .int .i64 mac]] w (NewSe w cnt L mac) := by
  have K0 := Lib.hid (show Kept w [(w.heap.size + 1, 89, #[.int .i64 0, .slice none 0 0, .int .i64 0]), (w.heap.size, 89, #[.int .i64 cnt, .slice B L.length tc, .int .i64 mac])] _ from (((Kept.refl w).put1 _ _ #[.int .i64 cnt, .slice B L.length tc, .int .i64 mac] rfl).put1 _ _ #[.int .i64 0, .slice none 0 0, .int .i64 0] (by simp)))
  have CO := Lib.hid (fun (u : World) (hb : Below w.heap.size w u) => l10Copy_calls B L tc u hN ((hB.below hb (Nat.le_refl _)).more hb.size))
  clear hB
  go_enter Tryz.func224, Tryz.ntmps224
  go_wp2_with fail
  refine (CO.out _ K0.out.1).mono ?_; rintro e u ⟨v, rfl, hrow, b1⟩
  have hk := K0.out.below b1
  obtain ⟨A', c', rfl, _, _⟩ := hrow.reads truV_len
  have hr2 : TrRow u (w.heap.size + 1 + 1) (.slice A' L.length c') L := by have h := hrow; simpa using h
  clear b1 hrow
  obtain ⟨kc0, kf0, kc1, kf1, -⟩ := hk.rd
  have HK := Lib.hid hk
  have HR := Lib.hid hr2
  clear hk hr2
  go_upto_region 2 with fail
  have hq : Kept w [(w.heap.size + 1, 89, #[.int .i64 0, .slice none 0 0, .int .i64 0]), (w.heap.size, 89, #[.int .i64 cnt, .slice A' L.length c', .int .i64 mac])] _ := HK.out.put (k := 1) rfl (by unfold Apart; simp) (gb_set (gb_refl _ (some w.heap.size)) 1 (.slice A' L.length c')) ((HK.out.at_ (p := w.heap.size) (t := 89) (cs := #[.int .i64 cnt, .slice B L.length tc, .int .i64 mac]) (by simp)).set_ 1 _)
  have hr3 := HR.out.grown (gb_set (gb_refl u (some w.heap.size)) 1 (.slice A' L.length c')) (by omega)
  clear kc0 kf0 kc1 kf1
  generalize World.setCell _ _ _ = wq at hq hr3 ⊢
  obtain ⟨kc0, kf0, kc1, kf1, -⟩ := hq.rd
  have HQ := Lib.hid hq
  have HR3 := Lib.hid hr3
  clear hq hr3
  go_wp2_with fail
  obtain ⟨w9, e9, ⟨d0, d1, d2⟩, hb9, hg9⟩ := seal_end (w := w) (x := .int .i64 cnt) (y := .slice A' L.length c') (z := .int .i64 mac) (HQ.out.at_ (p := w.heap.size + 1) (t := 89) (cs := #[.int .i64 0, .slice none 0 0, .int .i64 0]) (by simp)) HQ.out.1 (by omega)
  rw [e9]
  exact bodyPost_ret (v := .agg #[.int .i64 cnt, .slice A' L.length c', .int .i64 mac]) (by simp [results, Tryz.results224, go_sem, d0, d1, d2]) rfl ⟨A', c', rfl, (HR3.out.grown hg9 (by omega)).mono (by omega), hb9⟩
theorem ints_one (l : List Int) : ∀ u ∈ l.map (Value.int .i64), u.oneCell' = true := by
  intro u hu
  obtain ⟨x, _, rfl⟩ := List.mem_map.1 hu
  rfl
theorem ints_news {w : World} {B : Nat} {A : Option Addr} {l : List Int} (h : Ints w .i64 B A l) : ∀ j u, (l.map (Value.int .i64))[j]? = some u → ∃ ad, A = some ad ∧ w.cell? (ad.add j) = some u := by
  intro j u hu
  have hj : j < l.length := by have := (List.getElem?_eq_some_iff.1 hu).1; simpa using this
  obtain ⟨b, off, rfl, _, hc⟩ := h j hj
  refine ⟨_, rfl, ?_⟩
  rw [Addr.add_mid, hc]
  rw [List.getElem?_map, List.getElem?_eq_getElem hj] at hu
  simp only [Option.map_some, Option.some.injEq] at hu
  rw [← hu, List.getD_eq_getElem?_getD, List.getElem?_eq_getElem hj]
  rfl
def IRow (w : World) (base : Nat) (v : Value) (l : List Int) : Prop := w.ownsRow base 2 1 v l.length (l.map (Value.int .i64))
theorem IRow.form {w : World} {base : Nat} {v : Value} {l : List Int} (h : IRow w base v l) : ∃ A c, v = .slice A l.length c ∧ Ints w .i64 w.heap.size A l ∧ l.length ≤ c := by
  rcases h.2 with ⟨rfl, hn⟩ | ⟨g, cap, cur, rfl, hb, hg, hnc, hcm, hcs, htake⟩
  · have : l = [] := List.length_eq_zero_iff.1 hn
    subst this
    exact ⟨none, 0, rfl, Ints.nil, Nat.le_refl _⟩
  · refine ⟨_, cap, rfl, fun i hi => ⟨g, 0, rfl, (Array.getElem?_eq_some_iff.1 hg).1, ?_⟩, hnc⟩
    rw [Nat.zero_add, World.ownsRow.cellAt h i (by omega), List.getElem?_map, List.getElem?_eq_getElem hi, List.getD_eq_getElem?_getD, List.getElem?_eq_getElem hi]
    rfl
def NewInts (b : World) (l : List Int) (e : Ending) (w' : World) : Prop := ∃ A c, e = .returned (.slice A l.length c) ∧ IRow w' b.heap.size (.slice A l.length c) l ∧ Below b.heap.size b w'
set_option maxHeartbeats 1000000 in
theorem l1Copy_calls (A : Option Addr) (l : List Int) (cap : Nat) (w : World) (hn : l.length ≤ 1048576) (hA : Ints w .i64 w.heap.size A l) :
    Calls Tryz.prog 147 #[.slice A l.length cap] w (NewInts w l) := by
  have HB := Lib.hid ((Below.refl w.heap.size w).alloc (Nat.le_refl _) (.cells #[] 2))
  have HA := Lib.hid (ints_news ((hA.below HB.out (Nat.le_refl _)).more HB.out.size))
  have HR := Lib.hid (World.ownsRow_made (e := 2) (size := 1) w #[] 0 (Nat.le_refl w.heap.size) (by simp [maxLen]) rfl)
  have h1 := ints_one l
  clear hA
  go_enter Tryz.func147, Tryz.ntmps147
  go_wp2_with (at_builtin; refine wpList_append_row rfl _ _ 24 rfl w.heap.size 2 1 8 0 (.int .i64 0) (.slice (some ⟨w.heap.size, 0, none⟩) 0 0) [] A l.length cap (l.map (Value.int .i64)) Tryz.underlying24 info_i64 rfl (by omega) rfl HR.out rfl (by simp) HA.out h1 (by unfold maxLen; omega) (by omega) (by simp) ?_)
  intro v' w' hown hg _
  have hb : Below w.heap.size w w' := bgb HB.out (g := w.heap.size) (by simpa [Value.ownBlock] using hg) (by simp) (Nat.le_refl _)
  have hrow : IRow w' w.heap.size v' l := hown
  obtain ⟨A', c', rfl, _, _⟩ := hrow.form
  go_wp2_with fail
  go_ret
  exact ⟨A', c', rfl, hrow, hb⟩
theorem row_new {u w' : World} {t size n : Nat} {A : Option Addr} {c m : Nat} {xs : List Value} (h : w'.ownsRow u.heap.size t size (.slice A m c) n xs) : ∀ g ∈ (ownRow 0 0 t size n xs).fp (.slice A m c), u.heap.size ≤ g ∧ g < w'.heap.size := by
  intro g hg
  cases A with
  | none => simp [ownRow] at hg
  | some a =>
    simp only [ownRow, List.mem_singleton] at hg
    subst hg
    exact World.ownsRow.lt h a.block rfl
theorem row_mono {u : World} {base base' t size n : Nat} {v : Value} {xs : List Value} (h : u.ownsRow base t size v n xs) (hb : base' ≤ base) : u.ownsRow base' t size v n xs := by
  refine ⟨h.1, ?_⟩
  rcases h.2 with h0 | ⟨g, cap, cur, e, hg, r⟩
  · exact .inl h0
  · exact .inr ⟨g, cap, cur, e, Nat.le_trans hb hg, r⟩
def NewPl (b : World) (key : Int) (l : List Int) (e : Ending) (w' : World) : Prop := ∃ A c, e = .returned (.agg (pA key A l.length c)) ∧ IRow w' b.heap.size (.slice A l.length c) l ∧ Below b.heap.size b w'
set_option maxRecDepth 20000 in
set_option maxHeartbeats 2000000 in
theorem l5Copy_calls (key : Int) (A : Option Addr) (l : List Int) (cap : Nat) (w : World) (hn : l.length ≤ 1048576) (hA : Ints w .i64 w.heap.size A l) :
    Calls Tryz.prog 72 #[.agg (pA key A l.length cap)] w (NewPl w key l) := by
  have K0 := Lib.hid (show Kept w [(w.heap.size + 1, 26, zP), (w.heap.size, 26, (pA key A l.length cap))] _ from (((Kept.refl w).put1 _ _ (pA key A l.length cap) rfl).put1 _ _ zP (by simp)))
  have CO := Lib.hid (fun (u : World) (hb : Below w.heap.size w u) => l1Copy_calls A l cap u hn ((hA.below hb (Nat.le_refl _)).more hb.size))
  clear hA
  go_enter Tryz.func72, Tryz.ntmps72
  go_upto_region 1 with fail
  have hk := K0.out
  generalize (w.alloc _).alloc _ = w0 at hk ⊢
  have lm0 : w.heap.size < w0.heap.size := hk.lt (x := (w.heap.size, 26, (pA key A l.length cap))) (by simp)
  have lm1 : w.heap.size + 1 < w0.heap.size := hk.lt (x := (w.heap.size + 1, 26, zP)) (by simp)
  have hn0 : Kept w [(w.heap.size, 26, (pA key A l.length cap))] _ := hk.sub (by intro y hy; simp at hy ⊢; subst hy; simp)
  have hcz := hk.at_ (p := w.heap.size + 1) (t := 26) (cs := zP) (by simp)
  have hok : OutB.Ok (⟨w.heap.size + 1, 26, 2, 6, [4], fun γ => #[.int .i64 key, γ 4]⟩ : OutB) w (w0.heap.size) [(w.heap.size, 26, (pA key A l.length cap))] := ⟨by simp only [] <;> omega, by simp only [] <;> omega, by intro y hy; simp only [List.mem_cons, List.not_mem_nil, or_false] at hy; subst hy <;> (simp only []; omega), fun γ γ' ha => by simp only []; rw [ha 4 (by simp)], fun γ => rfl, by simp⟩
  have hstab : ∀ zz ∈ ([ownRow 4 w.heap.size 2 1 l.length (l.map (Value.int .i64))] : List Own), zz.Stable := by
    intro y hy
    simp only [List.mem_cons, List.not_mem_nil, or_false] at hy
    subst hy; exact ownRow.stable _ _ _ _ _ _
  have hstart : ∀ γ, OwnR w (w0.heap.size) [(w.heap.size, 26, (pA key A l.length cap))] [ownRow 4 w.heap.size 2 1 l.length (l.map (Value.int .i64))] (fun _ _ => false) (⟨w.heap.size + 1, 26, 2, 6, [4], fun γ => #[.int .i64 key, γ 4]⟩ : OutB) (fun _ => false) γ _ := fun γ => OwnR.start hn0 hn0.1.size (Nat.le_refl _) (by intro y hy; simp only [List.mem_cons, List.not_mem_nil, or_false] at hy; subst hy <;> (simp only []; omega)) hcz rfl
  refine wp_region_free [false, false, false, false, true, false, true] (ShL [(4, fun v => ∃ (A : Option Addr) (c : Nat), v = .slice A l.length c)]) (fun D γ u => OwnR w (w0.heap.size) [(w.heap.size, 26, (pA key A l.length cap))] [ownRow 4 w.heap.size 2 1 l.length (l.map (Value.int .i64))] (fun _ _ => false) (⟨w.heap.size + 1, 26, 2, 6, [4], fun γ => #[.int .i64 key, γ 4]⟩ : OutB) D γ u) (by kernel_rfl) (by kernel_rfl) (fun γ => by kernel_rfl) (fun D γ γ' w ha h => h.loc hok ha) (ShL.inh _ ?inh) (fun γ => hstart γ) (fun γ hγ => ?_)
  case inh =>
    intro y hy
    simp only [List.mem_cons, List.not_mem_nil, or_false] at hy
    subst hy
    · exact ⟨_, none, 0, rfl⟩
  clear hstart hn0 hcz
  obtain ⟨A4, c4, g4⟩ : ∃ (A : Option Addr) (c : Nat), γ 4 = .slice A l.length c := hγ 4 rfl
  have g6 : γ 6 = undef := hγ 6 rfl
  clear hk
  apply Exists.intro
  refine ⟨fun D => ?_, ?_, ?_⟩
  · simp only [hushL, cond_true, cond_false, Nat.reduceAdd, g4, g6]
    iterate 7 (first
      | go_big_quiet_skip
      | (go_big_quiet_want
         go_big_quiet_op
         first
           | go_big_quiet_on
           | (apply Exists.intro
              refine ⟨fun u hu => ?_, ?_⟩
              · first
                  | with_reducible rfl
                  | (obtain ⟨kc0, kf0, -⟩ := hu.1.1.1.rd; go_simp; first | done | with_reducible rfl)
              go_big_quiet_on)))
    exact wpQuiet_nil rfl
  · simp only [freeOk, Nat.reduceAdd]
    refine ⟨fun D u hD hd hu => ?_, fun D u hD hd hu => ?_, trivial⟩
    · refine steps_call ((CO.out u hu.1.1.1.1).mono ?_) rfl rfl rfl rfl (by kernel_rfl)
      rintro e w' ⟨A5, c5, rfl, hrow, hb⟩
      refine ⟨_, rfl, ⟨A5, c5, rfl⟩, ?_⟩
      exact hu.made hok hstab (z := ownRow 4 w.heap.size 2 1 l.length (l.map (Value.int .i64))) (by simp) (by intro y hy; simp only [List.mem_cons, List.not_mem_nil, or_false] at hy; subst hy; exact .inl rfl) hD (Nat.ne_of_beq_eq_false rfl) hb (row_mono hrow hu.1.1.1.1.size) (fun g hg => row_new hrow g hg)
    · obtain ⟨z, hz, hzs⟩ := hu.box
      refine steps_store hz rfl rfl (show _ = Value.agg (pA key A4 l.length c4) from rfl) (by kernel_rfl) hzs (by simp [Value.oneCell']) (fun w' hc hg => ⟨rfl, hu.stored hok hstab (by intro y hy; simp only [List.mem_cons, List.not_mem_nil, or_false] at hy; subst hy; exact ⟨Nat.ne_of_beq_eq_false rfl, Nat.ne_of_beq_eq_false rfl⟩) (by intro y hy; simp only [List.mem_cons, List.not_mem_nil, or_false] at hy; subst hy; exact hd { on := 4, ground := Ground.phase } (by simp) rfl rfl) hg ?_ _⟩)
      show CellsAt w' (w.heap.size + 1) 26 (#[.int .i64 key, γ 4])
      simp only [g4]
      exact hc
  · intro D uf hD hu
    have ho4 : IRow uf w.heap.size (γ 4) l := (hu.1.at_ (z := ownRow 4 w.heap.size 2 1 l.length (l.map (Value.int .i64))) (by simp) (hD 4 (by simp) rfl)).1
    simp only [g4] at ho4
    obtain ⟨hres0, hf⟩ := hu.done (hD 6 (by simp) rfl)
    have hres : CellsAt uf (w.heap.size + 1) 26 (#[.int .i64 key, γ 4]) := hres0
    simp only [g4] at hres
    clear hres0
    have d0 := hres.cell 0
    have d1 := hres.cell 1
    go_wp2_with fail
    exact bodyPost_ret (v := .agg (pA key A4 l.length c4)) (by simp [results, Tryz.results72, go_sem, d0, d1]) rfl ⟨A4, c4, rfl, ho4, hf.1⟩
def blkOf (v : Value) : List Nat := match v with | .slice (some a) _ _ => [a.block] | _ => []
def agg1 (v : Value) : Value := match v with | .agg cs => cs.getD 1 undef | _ => undef
def agg3 (v : Value) : Value := match v with | .agg cs => cs.getD 3 undef | _ => undef
theorem row_stable {u u' : World} {base t size n : Nat} {v : Value} {xs : List Value} (h : u.ownsRow base t size v n xs) (hf : ∀ g ∈ blkOf v, u'.heap[g]? = u.heap[g]?) : u'.ownsRow base t size v n xs := by
  refine ⟨h.1, ?_⟩
  rcases h.2 with h0 | ⟨g, cap, cur, e, hb, hg, r⟩
  · exact .inl h0
  · subst e
    exact .inr ⟨g, cap, cur, rfl, hb, by rw [hf g (by simp [blkOf])]; exact hg, r⟩
theorem row_fresh {u w' : World} {t size n : Nat} {v : Value} {xs : List Value} (h : w'.ownsRow u.heap.size t size v n xs) : ∀ g ∈ blkOf v, u.heap.size ≤ g ∧ g < w'.heap.size := by
  intro g hg
  unfold blkOf at hg
  split at hg
  · rename_i a _ _
    simp only [List.mem_singleton] at hg
    subst hg
    exact World.ownsRow.lt h a.block rfl
  · cases hg
def ownIn (k base t size n : Nat) (xs : List Value) (mk : Value → Value) : Own :=
  ⟨k, k, fun v => blkOf (agg1 v), fun _ v u => ∃ A c, v = mk (.slice A n c) ∧ u.ownsRow base t size (.slice A n c) n xs⟩
theorem ownIn.stable (k base t size n : Nat) (xs : List Value) (mk : Value → Value) (hm : ∀ s, agg1 (mk s) = s) : (ownIn k base t size n xs mk).Stable := by
  intro d v u u' ⟨A, c, e, h⟩ hf
  subst e
  exact ⟨A, c, rfl, row_stable h (fun g hg => hf g (by simp only [ownIn]; rw [hm]; exact hg))⟩
noncomputable def sealN (key : Int) (l : List Int) (cnt : Int) (L : List Tru) : Int × List Tru × Int :=
  open Classical in if trustsOk key l L ∧ (0 ≤ cnt ∧ cnt ≤ 10000) then (cnt, L, macOf key l cnt L) else (0, [], 0)
set_option maxRecDepth 20000 in
set_option maxHeartbeats 4000000 in
theorem specSealOf_calls (key : Int) (A : Option Addr) (l : List Int) (cap : Nat) (cnt : Int) (B : Option Addr) (L : List Tru) (tc : Nat) (w : World) (hn : l.length ≤ maxLen) (hA : Ints w .i64 w.heap.size A l) (hN : L.length ≤ 1048576) (hB : Trs w w.heap.size B L) (hI : TrusI L) (hc0 : I64 cnt) :
    Calls Tryz.prog 74 #[.agg (pA key A l.length cap), .int .i64 cnt, .slice B L.length tc] w (NewSe w (sealN key l cnt L).1 (sealN key l cnt L).2.1 (sealN key l cnt L).2.2) := by
  have K0 := Lib.hid (show Kept w [(w.heap.size + 1, 89, #[.int .i64 0, .slice none 0 0, .int .i64 0]), (w.heap.size, 26, (pA key A l.length cap))] _ from (((Kept.refl w).put1 _ _ (pA key A l.length cap) rfl).put1 _ _ #[.int .i64 0, .slice none 0 0, .int .i64 0] (by simp)))
  have TS := Lib.hid (fun (u : World) (hb : Below w.heap.size w u) => l10Trusts_calls key A B l cap L tc u hn ((hA.below hb (Nat.le_refl _)).more hb.size) (by unfold maxLen; omega) ((hB.below hb (Nat.le_refl _)).more hb.size))
  have MC := Lib.hid (fun (u : World) (hb : Below w.heap.size w u) => specMac_calls key cnt A B l cap L tc u hn ((hA.below hb (Nat.le_refl _)).more hb.size) hN ((hB.below hb (Nat.le_refl _)).more hb.size) hI hc0)
  have IN := Lib.hid (fun (u : World) => l1In_b cnt 0 10000 _ u rfl)
  have CO := Lib.hid (fun (u : World) (hb : Below w.heap.size w u) => l10Copy_calls B L tc u hN ((hB.below hb (Nat.le_refl _)).more hb.size))
  clear hA hB hI hc0 hn
  unfold sealN
  by_cases ht : trustsOk key l L
  · rw [trustsB_yes ht] at TS
    by_cases hr : 0 ≤ cnt ∧ cnt ≤ 10000
    · rw [decide_eq_true hr] at IN
      rw [if_pos ⟨ht, hr⟩]
      simp only []
      generalize macOf key l cnt L = mo at MC ⊢
      clear ht hr
      go_enter Tryz.func74, Tryz.ntmps74
      go_wp2_with fail
      refine (TS.out _ K0.out.1).mono ?_; rintro e uz1 ⟨rfl, bz2⟩
      have hz3 := K0.out.below bz2
      clear bz2
      obtain ⟨kc0, kf0, kc1, kf1, -⟩ := hz3.rd
      go_wp2_with fail
      refine (IN.out _).mono ?_; rintro e w' ⟨rfl, rfl⟩
      go_upto_region 3 with fail
      have lm0 : w.heap.size < uz1.heap.size := hz3.lt (x := (w.heap.size, 26, (pA key A l.length cap))) (by simp)
      have lm1 : w.heap.size + 1 < uz1.heap.size := hz3.lt (x := (w.heap.size + 1, 89, #[.int .i64 0, .slice none 0 0, .int .i64 0])) (by simp)
      have hn0 : Kept w [(w.heap.size, 26, (pA key A l.length cap))] _ := hz3.sub (by intro y hy; simp at hy ⊢; subst hy; simp)
      have hcz := hz3.at_ (p := w.heap.size + 1) (t := 89) (cs := #[.int .i64 0, .slice none 0 0, .int .i64 0]) (by simp)
      have hok : OutB.Ok (⟨w.heap.size + 1, 89, 3, 8, [2], fun γ => #[.int .i64 cnt, γ 2, .int .i64 mo]⟩ : OutB) w (uz1.heap.size) [(w.heap.size, 26, (pA key A l.length cap))] := ⟨by simp only [] <;> omega, by simp only [] <;> omega, by intro y hy; simp only [List.mem_cons, List.not_mem_nil, or_false] at hy; subst hy <;> (simp only []; omega), fun γ γ' ha => by simp only []; rw [ha 2 (by simp)], fun γ => rfl, by simp⟩
      have hstab : ∀ zz ∈ ([ownRow 2 w.heap.size 94 8 L.length (flatS truV L)] : List Own), zz.Stable := by
        intro y hy
        simp only [List.mem_cons, List.not_mem_nil, or_false] at hy
        subst hy; exact ownRow.stable _ _ _ _ _ _
      have hstart : ∀ γ, OwnR w (uz1.heap.size) [(w.heap.size, 26, (pA key A l.length cap))] [ownRow 2 w.heap.size 94 8 L.length (flatS truV L)] (fun _ _ => false) (⟨w.heap.size + 1, 89, 3, 8, [2], fun γ => #[.int .i64 cnt, γ 2, .int .i64 mo]⟩ : OutB) (fun _ => false) γ _ := fun γ => OwnR.start hn0 hn0.1.size (Nat.le_refl _) (by intro y hy; simp only [List.mem_cons, List.not_mem_nil, or_false] at hy; subst hy <;> (simp only []; omega)) hcz rfl
      refine wp_region_free [false, false, true, false, false, false, true, false, true] (ShL [(2, fun v => ∃ (A : Option Addr) (c : Nat), v = .slice A L.length c), (6, fun v => v = .int .i64 mo)]) (fun D γ u => OwnR w (uz1.heap.size) [(w.heap.size, 26, (pA key A l.length cap))] [ownRow 2 w.heap.size 94 8 L.length (flatS truV L)] (fun _ _ => false) (⟨w.heap.size + 1, 89, 3, 8, [2], fun γ => #[.int .i64 cnt, γ 2, .int .i64 mo]⟩ : OutB) D γ u) (by kernel_rfl) (by kernel_rfl) (fun γ => by kernel_rfl) (fun D γ γ' w ha h => h.loc hok ha) (ShL.inh _ ?inh) (fun γ => hstart γ) (fun γ hγ => ?_)
      case inh =>
        intro y hy
        simp only [List.mem_cons, List.not_mem_nil, or_false] at hy
        rcases hy with rfl | rfl
        · exact ⟨_, none, 0, rfl⟩
        · exact ⟨_, rfl⟩
      clear hstart hn0 hcz
      obtain ⟨A4, c4, g2⟩ : ∃ (A : Option Addr) (c : Nat), γ 2 = .slice A L.length c := hγ 2 rfl
      have g6 : γ 6 = .int .i64 mo := hγ 6 rfl
      have g8 : γ 8 = undef := hγ 8 rfl
      clear hz3 kc0 kf0 kc1 kf1
      apply Exists.intro
      refine ⟨fun D => ?_, ?_, ?_⟩
      · simp only [hushL, cond_true, cond_false, Nat.reduceAdd, g2, g6, g8]
        iterate 9 (first
          | go_big_quiet_skip
          | (go_big_quiet_want
             go_big_quiet_op
             first
               | go_big_quiet_on
               | (apply Exists.intro
                  refine ⟨fun u hu => ?_, ?_⟩
                  · first
                      | with_reducible rfl
                      | (obtain ⟨kc0, kf0, -⟩ := hu.1.1.1.rd; go_simp; first | done | with_reducible rfl)
                  go_big_quiet_on)))
        exact wpQuiet_nil rfl
      · simp only [freeOk, Nat.reduceAdd]
        refine ⟨fun D u hD hd hu => ?_, fun D u hD hd hu => ?_, fun D u hD hd hu => ?_, trivial⟩
        · refine steps_call ((CO.out u hu.1.1.1.1).mono ?_) rfl rfl rfl rfl (by kernel_rfl)
          rintro e w' ⟨v5, rfl, hrow, hb⟩
          obtain ⟨A5, c5, rfl, _, _⟩ := hrow.reads truV_len
          refine ⟨_, rfl, ⟨A5, c5, rfl⟩, ?_⟩
          exact hu.made hok hstab (z := ownRow 2 w.heap.size 94 8 L.length (flatS truV L)) (by simp) (by intro y hy; simp only [List.mem_cons, List.not_mem_nil, or_false] at hy; subst hy; exact .inl rfl) hD (Nat.ne_of_beq_eq_false rfl) hb (row_mono hrow hu.1.1.1.1.size) (fun g hg => row_fresh hrow g hg)
        · exact steps_call ((MC.out u hu.1.1.1.1).mono fun e w' ⟨he, hb⟩ => ⟨_, he, rfl, hu.below hok hstab hb hD _ (Nat.ne_of_beq_eq_false rfl) (by intro y hy; simp only [List.mem_cons, List.not_mem_nil, or_false] at hy; subst hy; exact ⟨Nat.ne_of_beq_eq_false rfl, Nat.ne_of_beq_eq_false rfl⟩)⟩) rfl rfl rfl rfl (by kernel_rfl)
        · obtain ⟨z, hz, hzs⟩ := hu.box
          refine steps_store hz rfl rfl (show _ = Value.agg #[.int .i64 cnt, .slice A4 L.length c4, .int .i64 mo] from rfl) (by kernel_rfl) hzs (by simp [Value.oneCell']) (fun w' hc hg => ⟨rfl, hu.stored hok hstab (by intro y hy; simp only [List.mem_cons, List.not_mem_nil, or_false] at hy; subst hy; exact ⟨Nat.ne_of_beq_eq_false rfl, Nat.ne_of_beq_eq_false rfl⟩) (by intro y hy; simp only [List.mem_cons, List.not_mem_nil, or_false] at hy; subst hy; exact hd { on := 2, ground := Ground.phase } (by simp) rfl rfl) hg ?_ _⟩)
          show CellsAt w' (w.heap.size + 1) 89 (#[.int .i64 cnt, γ 2, .int .i64 mo])
          simp only [g2]
          exact hc
      · intro D uf hD hu
        have ho2 : TrRow uf w.heap.size (γ 2) L := (hu.1.at_ (z := ownRow 2 w.heap.size 94 8 L.length (flatS truV L)) (by simp) (hD 2 (by simp) rfl)).1
        simp only [g2] at ho2
        obtain ⟨hres0, hf⟩ := hu.done (hD 8 (by simp) rfl)
        have hres : CellsAt uf (w.heap.size + 1) 89 (#[.int .i64 cnt, γ 2, .int .i64 mo]) := hres0
        simp only [g2] at hres
        clear hres0
        have d0 := hres.cell 0
        have d1 := hres.cell 1
        have d2 := hres.cell 2
        go_wp2_with fail
        exact bodyPost_ret (v := .agg #[.int .i64 cnt, .slice A4 L.length c4, .int .i64 mo]) (by simp [results, Tryz.results74, go_sem, d0, d1, d2]) rfl ⟨A4, c4, rfl, ho2, hf.1⟩
    · rw [decide_eq_false hr] at IN
      rw [if_neg (fun h => hr h.2)]
      clear ht hr MC CO
      go_enter Tryz.func74, Tryz.ntmps74
      go_wp2_with fail
      refine (TS.out _ K0.out.1).mono ?_; rintro e uz1 ⟨rfl, bz2⟩
      have hz3 := K0.out.below bz2
      clear bz2
      obtain ⟨kc0, kf0, kc1, kf1, -⟩ := hz3.rd
      go_wp2_with fail
      refine (IN.out _).mono ?_; rintro e w' ⟨rfl, rfl⟩
      go_wp2_with fail
      obtain ⟨w9, e9, ⟨d0, d1, d2⟩, hb9, _⟩ := seal_end (w := w) (x := .int .i64 0) (y := .slice none 0 0) (z := .int .i64 0) (hz3.at_ (p := w.heap.size + 1) (t := 89) (cs := #[.int .i64 0, .slice none 0 0, .int .i64 0]) (by simp)) hz3.1 (by omega)
      rw [e9]
      exact bodyPost_ret (v := .agg #[.int .i64 0, .slice none 0 0, .int .i64 0]) (by simp [results, Tryz.results74, go_sem, d0, d1, d2]) rfl ⟨none, 0, rfl, World.ownsRow_nil w9 _ _ _, hb9⟩
  · rw [trustsB_no ht] at TS
    rw [if_neg (fun h => ht h.1)]
    clear ht MC CO IN
    go_enter Tryz.func74, Tryz.ntmps74
    go_wp2_with fail
    refine (TS.out _ K0.out.1).mono ?_; rintro e uz1 ⟨rfl, bz2⟩
    have hz3 := K0.out.below bz2
    clear bz2
    obtain ⟨kc0, kf0, kc1, kf1, -⟩ := hz3.rd
    go_wp2_with fail
    obtain ⟨w9, e9, ⟨d0, d1, d2⟩, hb9, _⟩ := seal_end (w := w) (x := .int .i64 0) (y := .slice none 0 0) (z := .int .i64 0) (hz3.at_ (p := w.heap.size + 1) (t := 89) (cs := #[.int .i64 0, .slice none 0 0, .int .i64 0]) (by simp)) hz3.1 (by omega)
    rw [e9]
    exact bodyPost_ret (v := .agg #[.int .i64 0, .slice none 0 0, .int .i64 0]) (by simp [results, Tryz.results74, go_sem, d0, d1, d2]) rfl ⟨none, 0, rfl, World.ownsRow_nil w9 _ _ _, hb9⟩
def NewSl (b : World) (cnt : Int) (L : List Tru) (mac : Int) (M : List Ce) (e : Ending) (w' : World) : Prop :=
  ∃ A c C d, e = .returned (.agg #[.int .i64 cnt, .slice A L.length c, .int .i64 mac, .slice C M.length d]) ∧ TrRow w' b.heap.size (.slice A L.length c) L ∧ ClRow w' b.heap.size (.slice C M.length d) M ∧ (∀ g ∈ blkOf (.slice A L.length c), g ∉ blkOf (.slice C M.length d)) ∧ Below b.heap.size b w'
set_option maxRecDepth 20000 in
set_option maxHeartbeats 4000000 in
theorem l11Copy_calls (cnt : Int) (B : Option Addr) (L : List Tru) (tc : Nat) (mac : Int) (C : Option Addr) (M : List Ce) (cc : Nat) (w : World) (hN : L.length ≤ 1048576) (hB : Trs w w.heap.size B L) (hM : M.length ≤ 1048576) (hC : Cls w w.heap.size C M) :
    Calls Tryz.prog 169 #[.agg #[.int .i64 cnt, .slice B L.length tc, .int .i64 mac, .slice C M.length cc]] w (NewSl w cnt L mac M) := by
  have K0 := Lib.hid (show Kept w [(w.heap.size + 1, 91, #[.int .i64 0, .slice none 0 0, .int .i64 0, .slice none 0 0]), (w.heap.size, 91, #[.int .i64 cnt, .slice B L.length tc, .int .i64 mac, .slice C M.length cc])] _ from (((Kept.refl w).put1 _ _ #[.int .i64 cnt, .slice B L.length tc, .int .i64 mac, .slice C M.length cc] rfl).put1 _ _ #[.int .i64 0, .slice none 0 0, .int .i64 0, .slice none 0 0] (by simp)))
  have SC := Lib.hid (fun (u : World) (hb : Below w.heap.size w u) => l10Seal_calls cnt B L tc mac u hN ((hB.below hb (Nat.le_refl _)).more hb.size))
  have NW := Lib.hid (fun (u : World) (hb : Below w.heap.size w u) => Sls.news ceV_len (by omega) (hC.below hb (Nat.le_refl _)))
  clear hB hC
  go_enter Tryz.func169, Tryz.ntmps169
  go_upto_region 1 with fail
  have hk := K0.out
  generalize (w.alloc _).alloc _ = w0 at hk ⊢
  have lm0 : w.heap.size < w0.heap.size := hk.lt (x := (w.heap.size, 91, #[.int .i64 cnt, .slice B L.length tc, .int .i64 mac, .slice C M.length cc])) (by simp)
  have lm1 : w.heap.size + 1 < w0.heap.size := hk.lt (x := (w.heap.size + 1, 91, #[.int .i64 0, .slice none 0 0, .int .i64 0, .slice none 0 0])) (by simp)
  have hn0 : Kept w [(w.heap.size, 91, #[.int .i64 cnt, .slice B L.length tc, .int .i64 mac, .slice C M.length cc])] _ := hk.sub (by intro y hy; simp at hy ⊢; subst hy; simp)
  have hcz := hk.at_ (p := w.heap.size + 1) (t := 91) (cs := #[.int .i64 0, .slice none 0 0, .int .i64 0, .slice none 0 0]) (by simp)
  have hok : OutB.Ok (⟨w.heap.size + 1, 91, 4, 8, [2, 6], fun γ => #[.int .i64 cnt, agg1 (γ 2), .int .i64 mac, γ 6]⟩ : OutB) w (w0.heap.size) [(w.heap.size, 91, #[.int .i64 cnt, .slice B L.length tc, .int .i64 mac, .slice C M.length cc])] := ⟨by simp only [] <;> omega, by simp only [] <;> omega, by intro y hy; simp only [List.mem_cons, List.not_mem_nil, or_false] at hy; subst hy <;> (simp only []; omega), fun γ γ' ha => by simp only []; rw [ha 2 (by simp), ha 6 (by simp)], fun γ => rfl, by simp⟩
  have hstab : ∀ zz ∈ ([ownIn 2 w.heap.size 94 8 L.length (flatS truV L) (fun s => .agg #[.int .i64 cnt, s, .int .i64 mac]), ownNil 3 6 w.heap.size 118 2, ownRow 6 w.heap.size 118 2 M.length (flatS ceV M)] : List Own), zz.Stable := by
    intro y hy
    simp only [List.mem_cons, List.not_mem_nil, or_false] at hy
    rcases hy with rfl | rfl | rfl
    · exact ownIn.stable _ _ _ _ _ _ _ (fun s => rfl)
    · exact ownNil.stable _ _ _ _ _
    · exact ownRow.stable _ _ _ _ _ _
  have hstart : ∀ γ, OwnR w (w0.heap.size) [(w.heap.size, 91, #[.int .i64 cnt, .slice B L.length tc, .int .i64 mac, .slice C M.length cc])] [ownIn 2 w.heap.size 94 8 L.length (flatS truV L) (fun s => .agg #[.int .i64 cnt, s, .int .i64 mac]), ownNil 3 6 w.heap.size 118 2, ownRow 6 w.heap.size 118 2 M.length (flatS ceV M)] (fun i j => (i == 3 && j == 6) || (i == 6 && j == 3)) (⟨w.heap.size + 1, 91, 4, 8, [2, 6], fun γ => #[.int .i64 cnt, agg1 (γ 2), .int .i64 mac, γ 6]⟩ : OutB) (fun _ => false) γ _ := fun γ => OwnR.start hn0 hn0.1.size (Nat.le_refl _) (by intro y hy; simp only [List.mem_cons, List.not_mem_nil, or_false] at hy; subst hy <;> (simp only []; omega)) hcz rfl
  refine wp_region_free [false, false, true, true, false, false, true, false, true] (ShL [(2, fun v => ∃ (A : Option Addr) (c : Nat), v = .agg #[.int .i64 cnt, .slice A L.length c, .int .i64 mac]), (3, fun v => ∃ g : Nat, v = .slice (some ⟨g, 0, none⟩) 0 0), (6, fun v => ∃ (A : Option Addr) (c : Nat), v = .slice A M.length c)]) (fun D γ u => OwnR w (w0.heap.size) [(w.heap.size, 91, #[.int .i64 cnt, .slice B L.length tc, .int .i64 mac, .slice C M.length cc])] [ownIn 2 w.heap.size 94 8 L.length (flatS truV L) (fun s => .agg #[.int .i64 cnt, s, .int .i64 mac]), ownNil 3 6 w.heap.size 118 2, ownRow 6 w.heap.size 118 2 M.length (flatS ceV M)] (fun i j => (i == 3 && j == 6) || (i == 6 && j == 3)) (⟨w.heap.size + 1, 91, 4, 8, [2, 6], fun γ => #[.int .i64 cnt, agg1 (γ 2), .int .i64 mac, γ 6]⟩ : OutB) D γ u) (by kernel_rfl) (by kernel_rfl) (fun γ => by kernel_rfl) (fun D γ γ' w ha h => h.loc hok ha) (ShL.inh _ ?inh) (fun γ => hstart γ) (fun γ hγ => ?_)
  case inh =>
    intro y hy
    simp only [List.mem_cons, List.not_mem_nil, or_false] at hy
    rcases hy with rfl | rfl | rfl
    · exact ⟨_, none, 0, rfl⟩
    · exact ⟨_, 0, rfl⟩
    · exact ⟨_, none, 0, rfl⟩
  clear hstart hn0 hcz
  obtain ⟨A4, c4, g2⟩ : ∃ (A : Option Addr) (c : Nat), γ 2 = .agg #[.int .i64 cnt, .slice A L.length c, .int .i64 mac] := hγ 2 rfl
  obtain ⟨gn, g3⟩ : ∃ g : Nat, γ 3 = .slice (some ⟨g, 0, none⟩) 0 0 := hγ 3 rfl
  obtain ⟨A7, c7, g6⟩ : ∃ (A : Option Addr) (c : Nat), γ 6 = .slice A M.length c := hγ 6 rfl
  have g8 : γ 8 = undef := hγ 8 rfl
  clear hk
  apply Exists.intro
  refine ⟨fun D => ?_, ?_, ?_⟩
  · simp only [hushL, cond_true, cond_false, Nat.reduceAdd, g2, g3, g6, g8]
    iterate 9 (first
      | go_big_quiet_skip
      | (go_big_quiet_want
         go_big_quiet_op
         first
           | go_big_quiet_on
           | (apply Exists.intro
              refine ⟨fun u hu => ?_, ?_⟩
              · first
                  | with_reducible rfl
                  | (obtain ⟨kc0, kf0, -⟩ := hu.1.1.1.rd; go_simp; first | done | with_reducible rfl)
              go_big_quiet_on)))
    exact wpQuiet_nil rfl
  · simp only [freeOk, Nat.reduceAdd]
    refine ⟨fun D u hD hd hu => ?_, fun D u hD hd hu => ?_, fun D u hD hd hu => ?_, fun D u hD hd hu => ?_, trivial⟩
    · refine steps_call ((SC.out u hu.1.1.1.1).mono ?_) rfl rfl rfl rfl (by kernel_rfl)
      rintro e w' ⟨A5, c5, rfl, hrow, hb⟩
      refine ⟨_, rfl, ⟨A5, c5, rfl⟩, ?_⟩
      exact hu.made hok hstab (z := ownIn 2 w.heap.size 94 8 L.length (flatS truV L) (fun s => .agg #[.int .i64 cnt, s, .int .i64 mac])) (by simp) (by intro y hy; simp only [List.mem_cons, List.not_mem_nil, or_false] at hy; rcases hy with rfl | rfl | rfl; exact .inl rfl; exact .inr ⟨(Nat.ne_of_beq_eq_false rfl), (Nat.ne_of_beq_eq_false rfl)⟩; exact .inr ⟨(Nat.ne_of_beq_eq_false rfl), (Nat.ne_of_beq_eq_false rfl)⟩) hD (Nat.ne_of_beq_eq_false rfl) hb ⟨A5, c5, rfl, row_mono hrow hu.1.1.1.1.size⟩ (fun g hg => row_fresh hrow g hg)
    · refine steps_buildNil 28 118 rfl Tryz.underlying28 (by kernel_rfl) ?_
      refine ⟨⟨_, rfl⟩, ?_⟩
      have ha : Below u.heap.size u (u.alloc (.cells #[] 118)) := (Below.refl _ _).alloc (Nat.le_refl _) _
      exact hu.made hok hstab (z := ownNil 3 6 w.heap.size 118 2) (by simp) (by intro y hy; simp only [List.mem_cons, List.not_mem_nil, or_false] at hy; rcases hy with rfl | rfl | rfl; exact .inr ⟨(Nat.ne_of_beq_eq_false rfl), (Nat.ne_of_beq_eq_false rfl)⟩; exact .inl rfl; exact .inr ⟨(Nat.ne_of_beq_eq_false rfl), (Nat.ne_of_beq_eq_false rfl)⟩) hD (Nat.ne_of_beq_eq_false rfl) ha (fun _ => ⟨_, rfl, World.ownsRow_made u #[] 0 hu.1.1.1.1.size (by simp [maxLen]) (by simp)⟩) (by intro g hg; simp only [ownNil, List.mem_singleton] at hg; subst hg; exact ⟨Nat.le_refl _, by simp⟩)
    · have d3 := hd { on := 3, ground := Ground.data } (by simp) rfl rfl
      obtain ⟨h3, -⟩ := hu.1.at_ (z := ownNil 3 6 w.heap.size 118 2) (by simp) d3
      obtain ⟨g0, e0, hown0⟩ := h3 hD
      have e1 : γ 3 = .slice (some ⟨g0, 0, none⟩) 0 0 := e0
      obtain rfl : gn = g0 := by rw [g3] at e1; simpa using e1
      have hown1 : u.ownsRow w.heap.size 118 2 (γ 3) 0 [] := hown0
      rw [g3] at hown1
      refine steps_append _ _ 28 rfl w.heap.size 118 2 16 0 (.agg zC) (.slice (some ⟨gn, 0, none⟩) 0 0) [] C M.length cc (flatS ceV M) Tryz.underlying28 info_cel rfl (by omega) rfl hown1 rfl (flatS_length ceV_len) (NW.out u hu.1.1.1.1) (ceV_one M) (by unfold maxLen; omega) (by omega) hu.1.1.1.1.size ?_
      intro v' w' hown hg hb2
      have hrow : ClRow w' w.heap.size v' M := by have h := hown; simp only [Nat.zero_add, List.nil_append] at h; exact h
      obtain ⟨A6, c6, rfl, _, _⟩ := hrow.reads ceV_len
      refine ⟨⟨A6, c6, rfl⟩, ?_⟩
      refine hu.moved hok hstab (y := ownNil 3 6 w.heap.size 118 2) (z := ownRow 6 w.heap.size 118 2 M.length (flatS ceV M)) (p := gn) (by simp) (by simp) rfl rfl d3 (by intro y hy; simp only [List.mem_cons, List.not_mem_nil, or_false] at hy; rcases hy with rfl | rfl | rfl; exact .inr (.inr ⟨(Nat.ne_of_beq_eq_false rfl), (Nat.ne_of_beq_eq_false rfl), (Nat.ne_of_beq_eq_false rfl), rfl, rfl⟩); exact .inr (.inl rfl); exact .inl rfl) (Nat.ne_of_beq_eq_false rfl) ⟨rfl, rfl⟩ hD (Nat.ne_of_beq_eq_false rfl) (show blkOf (γ 3) = [gn] by rw [g3]; rfl) hg hrow (fun e => by cases e) ?_ ?_
      · intro g hgf
        rcases hb2 with h | h
        · left
          cases A6 with
          | none => cases hgf
          | some a => simp [Value.ownBlock] at h; simp only [ownRow, List.mem_singleton] at hgf; omega
        · right
          cases A6 with
          | none => cases hgf
          | some a => simp [Value.ownBlock] at h; simp only [ownRow, List.mem_singleton] at hgf; omega
      · intro g hgf
        cases A6 with
        | none => cases hgf
        | some a => simp only [ownRow, List.mem_singleton] at hgf; subst hgf; exact (hrow.lt rfl).2
    · obtain ⟨z, hz, hzs⟩ := hu.box
      refine steps_store hz rfl rfl (show _ = Value.agg #[.int .i64 cnt, .slice A4 L.length c4, .int .i64 mac, .slice A7 M.length c7] from rfl) (by kernel_rfl) hzs (by simp [Value.oneCell']) (fun w' hc hg => ⟨rfl, hu.stored hok hstab (by intro y hy; simp only [List.mem_cons, List.not_mem_nil, or_false] at hy; rcases hy with rfl | rfl | rfl <;> exact ⟨Nat.ne_of_beq_eq_false rfl, Nat.ne_of_beq_eq_false rfl⟩) (by intro y hy; simp only [List.mem_cons, List.not_mem_nil, or_false] at hy; rcases hy with rfl | rfl; exact hd { on := 2, ground := Ground.phase } (by simp) rfl rfl; exact hd { on := 6, ground := Ground.phase } (by simp) rfl rfl) hg ?_ _⟩)
      show CellsAt w' (w.heap.size + 1) 91 (#[.int .i64 cnt, agg1 (γ 2), .int .i64 mac, γ 6])
      simp only [g2, g6]
      exact hc
  · intro D uf hD hu
    have ho2 : ∃ A c, γ 2 = .agg #[.int .i64 cnt, .slice A L.length c, .int .i64 mac] ∧ TrRow uf w.heap.size (.slice A L.length c) L := (hu.1.at_ (z := ownIn 2 w.heap.size 94 8 L.length (flatS truV L) (fun s => .agg #[.int .i64 cnt, s, .int .i64 mac])) (by simp) (hD 2 (by simp) rfl)).1
    simp only [g2] at ho2
    have ho6 : ClRow uf w.heap.size (γ 6) M := (hu.1.at_ (z := ownRow 6 w.heap.size 118 2 M.length (flatS ceV M)) (by simp) (hD 6 (by simp) rfl)).1
    simp only [g6] at ho6
    obtain ⟨hres0, hf⟩ := hu.done (hD 8 (by simp) rfl)
    have hres : CellsAt uf (w.heap.size + 1) 91 (#[.int .i64 cnt, agg1 (γ 2), .int .i64 mac, γ 6]) := hres0
    simp only [g2, g6] at hres
    clear hres0
    obtain ⟨A8, c8, e8, ho8⟩ := ho2
    simp only [Value.agg.injEq, Array.mk.injEq, List.cons.injEq, Value.slice.injEq, true_and, and_true] at e8
    obtain ⟨rfl, rfl⟩ := e8
    have hdis : ∀ g ∈ blkOf (agg1 (γ 2)), g ∉ blkOf (γ 6) := hu.1.2.2.2.2.2.2.1 (ownIn 2 w.heap.size 94 8 L.length (flatS truV L) (fun s => .agg #[.int .i64 cnt, s, .int .i64 mac])) (by simp) (ownRow 6 w.heap.size 118 2 M.length (flatS ceV M)) (by simp) (Nat.ne_of_beq_eq_false rfl) rfl (hD 2 (by simp) rfl) (hD 6 (by simp) rfl)
    rw [g2, g6] at hdis
    have d0 := hres.cell 0
    have d1 := hres.cell 1
    have d2 := hres.cell 2
    have d3 := hres.cell 3
    go_wp2_with fail
    exact bodyPost_ret (v := .agg #[.int .i64 cnt, .slice A4 L.length c4, .int .i64 mac, .slice A7 M.length c7]) (by simp [results, Tryz.results169, go_sem, d0, d1, d2, d3, agg1]) rfl ⟨A4, c4, A7, c7, rfl, ho8, ho6, hdis, hf.1⟩
end Go.Proofs.YteoijmejhdocdaaGreatDoor.Mx

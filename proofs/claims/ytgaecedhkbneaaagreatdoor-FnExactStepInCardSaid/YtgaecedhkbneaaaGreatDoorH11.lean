import Derived.Test.YtgaecedhkbneaaaGreatDoorH09
import Derived.Test.YtgaecedhkbneaaaGreatDoorH08
namespace Go.Proofs.YtgaecedhkbneaaaGreatDoor.Mx
open Go.ChangeShapes Go.WideShapes Go.ChangeAt Go.RowKit
set_option linter.unusedVariables false
def blkOf (v : Value) : List Nat := match v with | .slice (some a) _ _ => [a.block] | _ => []
def agg1 (v : Value) : Value := match v with | .agg cs => cs.getD 1 undef | _ => undef
def agg3 (v : Value) : Value := match v with | .agg cs => cs.getD 3 undef | _ => undef
theorem row_stable {u u' : World} {base t size n : Nat} {v : Value} {xs : List Value} (h : u.ownsRow base t size v n xs) (hf : ∀ g ∈ blkOf v, u'.heap[g]? = u.heap[g]?) : u'.ownsRow base t size v n xs := by
  refine ⟨h.1, ?_⟩
  rcases h.2 with h0 | ⟨g, cap, cur, e, hb, hg, r⟩
  · exact .inl h0
  · subst e
    exact .inr ⟨g, cap, cur, rfl, hb, by rw [hf g (by simp [blkOf])]; exact hg, r⟩
theorem row_fresh {u w' : World} {t size n : Nat} {v : Value} {xs : List Value} (h : w'.ownsRow u.heap.size t size v n xs) : ∀ g ∈ blkOf v, u.heap.size ≤ g ∧ g < w'.heap.size := by
  intro g hg
  unfold blkOf at hg
  split at hg
  · rename_i a _ _
    simp only [List.mem_singleton] at hg
    subst hg
    exact World.ownsRow.lt h a.block rfl
  · cases hg
def ownIn (k base t size n : Nat) (xs : List Value) (mk : Value → Value) : Own :=
  ⟨k, k, fun v => blkOf (agg1 v), fun _ v u => ∃ A c, v = mk (.slice A n c) ∧ u.ownsRow base t size (.slice A n c) n xs⟩
theorem ownIn.stable (k base t size n : Nat) (xs : List Value) (mk : Value → Value) (hm : ∀ s, agg1 (mk s) = s) : (ownIn k base t size n xs mk).Stable := by
  intro d v u u' ⟨A, c, e, h⟩ hf
  subst e
  exact ⟨A, c, rfl, row_stable h (fun g hg => hf g (by simp only [ownIn]; rw [hm]; exact hg))⟩
def NewSl (b : World) (cnt : Int) (L : List Tru) (mac : Int) (M : List Ce) (e : Ending) (w' : World) : Prop :=
  ∃ A c C d, e = .returned (.agg #[.int .i64 cnt, .slice A L.length c, .int .i64 mac, .slice C M.length d]) ∧ TrRow w' b.heap.size (.slice A L.length c) L ∧ ClRow w' b.heap.size (.slice C M.length d) M ∧ (∀ g ∈ blkOf (.slice A L.length c), g ∉ blkOf (.slice C M.length d)) ∧ Below b.heap.size b w'
set_option maxRecDepth 20000 in
set_option maxHeartbeats 4000000 in
theorem l11Copy_calls (cnt : Int) (B : Option Addr) (L : List Tru) (tc : Nat) (mac : Int) (C : Option Addr) (M : List Ce) (cc : Nat) (w : World) (hN : L.length ≤ 1048576) (hB : Trs w w.heap.size B L) (hM : M.length ≤ 1048576) (hC : Cls w w.heap.size C M) :
    Calls Tryz.prog 162 #[.agg #[.int .i64 cnt, .slice B L.length tc, .int .i64 mac, .slice C M.length cc]] w (NewSl w cnt L mac M) := by
  have K0 := Lib.hid (show Kept w [(w.heap.size + 1, 77, #[.int .i64 0, .slice none 0 0, .int .i64 0, .slice none 0 0]), (w.heap.size, 77, #[.int .i64 cnt, .slice B L.length tc, .int .i64 mac, .slice C M.length cc])] _ from (((Kept.refl w).put1 _ _ #[.int .i64 cnt, .slice B L.length tc, .int .i64 mac, .slice C M.length cc] rfl).put1 _ _ #[.int .i64 0, .slice none 0 0, .int .i64 0, .slice none 0 0] (by simp)))
  have SC := Lib.hid (fun (u : World) (hb : Below w.heap.size w u) => l10Seal_calls cnt B L tc mac u hN ((hB.below hb (Nat.le_refl _)).more hb.size))
  have NW := Lib.hid (fun (u : World) (hb : Below w.heap.size w u) => Sls.news ceV_len (by omega) (hC.below hb (Nat.le_refl _)))
  clear hB hC
  go_enter Tryz.func162, Tryz.ntmps162
  go_upto_region 1 with fail
  have hk := K0.out
  generalize (w.alloc _).alloc _ = w0 at hk ⊢
  have lm0 : w.heap.size < w0.heap.size := hk.lt (x := (w.heap.size, 77, #[.int .i64 cnt, .slice B L.length tc, .int .i64 mac, .slice C M.length cc])) (by simp)
  have lm1 : w.heap.size + 1 < w0.heap.size := hk.lt (x := (w.heap.size + 1, 77, #[.int .i64 0, .slice none 0 0, .int .i64 0, .slice none 0 0])) (by simp)
  have hn0 : Kept w [(w.heap.size, 77, #[.int .i64 cnt, .slice B L.length tc, .int .i64 mac, .slice C M.length cc])] _ := hk.sub (by intro y hy; simp at hy ⊢; subst hy; simp)
  have hcz := hk.at_ (p := w.heap.size + 1) (t := 77) (cs := #[.int .i64 0, .slice none 0 0, .int .i64 0, .slice none 0 0]) (by simp)
  have hok : OutB.Ok (⟨w.heap.size + 1, 77, 4, 8, [2, 6], fun γ => #[.int .i64 cnt, agg1 (γ 2), .int .i64 mac, γ 6]⟩ : OutB) w (w0.heap.size) [(w.heap.size, 77, #[.int .i64 cnt, .slice B L.length tc, .int .i64 mac, .slice C M.length cc])] := ⟨by simp only [] <;> omega, by simp only [] <;> omega, by intro y hy; simp only [List.mem_cons, List.not_mem_nil, or_false] at hy; subst hy <;> (simp only []; omega), fun γ γ' ha => by simp only []; rw [ha 2 (by simp), ha 6 (by simp)], fun γ => rfl, by simp⟩
  have hstab : ∀ zz ∈ ([ownIn 2 w.heap.size 80 8 L.length (flatS truV L) (fun s => .agg #[.int .i64 cnt, s, .int .i64 mac]), ownNil 3 6 w.heap.size 112 2, ownRow 6 w.heap.size 112 2 M.length (flatS ceV M)] : List Own), zz.Stable := by
    intro y hy
    simp only [List.mem_cons, List.not_mem_nil, or_false] at hy
    rcases hy with rfl | rfl | rfl
    · exact ownIn.stable _ _ _ _ _ _ _ (fun s => rfl)
    · exact ownNil.stable _ _ _ _ _
    · exact ownRow.stable _ _ _ _ _ _
  have hstart : ∀ γ, OwnR w (w0.heap.size) [(w.heap.size, 77, #[.int .i64 cnt, .slice B L.length tc, .int .i64 mac, .slice C M.length cc])] [ownIn 2 w.heap.size 80 8 L.length (flatS truV L) (fun s => .agg #[.int .i64 cnt, s, .int .i64 mac]), ownNil 3 6 w.heap.size 112 2, ownRow 6 w.heap.size 112 2 M.length (flatS ceV M)] (fun i j => (i == 3 && j == 6) || (i == 6 && j == 3)) (⟨w.heap.size + 1, 77, 4, 8, [2, 6], fun γ => #[.int .i64 cnt, agg1 (γ 2), .int .i64 mac, γ 6]⟩ : OutB) (fun _ => false) γ _ := fun γ => OwnR.start hn0 hn0.1.size (Nat.le_refl _) (by intro y hy; simp only [List.mem_cons, List.not_mem_nil, or_false] at hy; subst hy <;> (simp only []; omega)) hcz rfl
  refine wp_region_free [false, false, true, true, false, false, true, false, true] (ShL [(2, fun v => ∃ (A : Option Addr) (c : Nat), v = .agg #[.int .i64 cnt, .slice A L.length c, .int .i64 mac]), (3, fun v => ∃ g : Nat, v = .slice (some ⟨g, 0, none⟩) 0 0), (6, fun v => ∃ (A : Option Addr) (c : Nat), v = .slice A M.length c)]) (fun D γ u => OwnR w (w0.heap.size) [(w.heap.size, 77, #[.int .i64 cnt, .slice B L.length tc, .int .i64 mac, .slice C M.length cc])] [ownIn 2 w.heap.size 80 8 L.length (flatS truV L) (fun s => .agg #[.int .i64 cnt, s, .int .i64 mac]), ownNil 3 6 w.heap.size 112 2, ownRow 6 w.heap.size 112 2 M.length (flatS ceV M)] (fun i j => (i == 3 && j == 6) || (i == 6 && j == 3)) (⟨w.heap.size + 1, 77, 4, 8, [2, 6], fun γ => #[.int .i64 cnt, agg1 (γ 2), .int .i64 mac, γ 6]⟩ : OutB) D γ u) (by kernel_rfl) (by kernel_rfl) (fun γ => by kernel_rfl) (fun D γ γ' w ha h => h.loc hok ha) (ShL.inh _ ?inh) (fun γ => hstart γ) (fun γ hγ => ?_)
  case inh =>
    intro y hy
    simp only [List.mem_cons, List.not_mem_nil, or_false] at hy
    rcases hy with rfl | rfl | rfl
    · exact ⟨_, none, 0, rfl⟩
    · exact ⟨_, 0, rfl⟩
    · exact ⟨_, none, 0, rfl⟩
  clear hstart hn0 hcz
  obtain ⟨A4, c4, g2⟩ : ∃ (A : Option Addr) (c : Nat), γ 2 = .agg #[.int .i64 cnt, .slice A L.length c, .int .i64 mac] := hγ 2 rfl
  obtain ⟨gn, g3⟩ : ∃ g : Nat, γ 3 = .slice (some ⟨g, 0, none⟩) 0 0 := hγ 3 rfl
  obtain ⟨A7, c7, g6⟩ : ∃ (A : Option Addr) (c : Nat), γ 6 = .slice A M.length c := hγ 6 rfl
  have g8 : γ 8 = undef := hγ 8 rfl
  clear hk
  apply Exists.intro
  refine ⟨fun D => ?_, ?_, ?_⟩
  · simp only [hushL, cond_true, cond_false, Nat.reduceAdd, g2, g3, g6, g8]
    iterate 9 (first
      | go_big_quiet_skip
      | (go_big_quiet_want
         go_big_quiet_op
         first
           | go_big_quiet_on
           | (apply Exists.intro
              refine ⟨fun u hu => ?_, ?_⟩
              · first
                  | with_reducible rfl
                  | (obtain ⟨kc0, kf0, -⟩ := hu.1.1.1.rd; go_simp; first | done | with_reducible rfl)
              go_big_quiet_on)))
    exact wpQuiet_nil rfl
  · simp only [freeOk, Nat.reduceAdd]
    refine ⟨fun D u hD hd hu => ?_, fun D u hD hd hu => ?_, fun D u hD hd hu => ?_, fun D u hD hd hu => ?_, trivial⟩
    · refine steps_call ((SC.out u hu.1.1.1.1).mono ?_) rfl rfl rfl rfl (by kernel_rfl)
      rintro e w' ⟨A5, c5, rfl, hrow, hb⟩
      refine ⟨_, rfl, ⟨A5, c5, rfl⟩, ?_⟩
      exact hu.made hok hstab (z := ownIn 2 w.heap.size 80 8 L.length (flatS truV L) (fun s => .agg #[.int .i64 cnt, s, .int .i64 mac])) (by simp) (by intro y hy; simp only [List.mem_cons, List.not_mem_nil, or_false] at hy; rcases hy with rfl | rfl | rfl; exact .inl rfl; exact .inr ⟨(Nat.ne_of_beq_eq_false rfl), (Nat.ne_of_beq_eq_false rfl)⟩; exact .inr ⟨(Nat.ne_of_beq_eq_false rfl), (Nat.ne_of_beq_eq_false rfl)⟩) hD (Nat.ne_of_beq_eq_false rfl) hb ⟨A5, c5, rfl, row_mono hrow hu.1.1.1.1.size⟩ (fun g hg => row_fresh hrow g hg)
    · refine steps_buildNil 28 112 rfl Tryz.underlying28 (by kernel_rfl) ?_
      refine ⟨⟨_, rfl⟩, ?_⟩
      have ha : Below u.heap.size u (u.alloc (.cells #[] 112)) := (Below.refl _ _).alloc (Nat.le_refl _) _
      exact hu.made hok hstab (z := ownNil 3 6 w.heap.size 112 2) (by simp) (by intro y hy; simp only [List.mem_cons, List.not_mem_nil, or_false] at hy; rcases hy with rfl | rfl | rfl; exact .inr ⟨(Nat.ne_of_beq_eq_false rfl), (Nat.ne_of_beq_eq_false rfl)⟩; exact .inl rfl; exact .inr ⟨(Nat.ne_of_beq_eq_false rfl), (Nat.ne_of_beq_eq_false rfl)⟩) hD (Nat.ne_of_beq_eq_false rfl) ha (fun _ => ⟨_, rfl, World.ownsRow_made u #[] 0 hu.1.1.1.1.size (by simp [maxLen]) (by simp)⟩) (by intro g hg; simp only [ownNil, List.mem_singleton] at hg; subst hg; exact ⟨Nat.le_refl _, by simp⟩)
    · have d3 := hd { on := 3, ground := Ground.data } (by simp) rfl rfl
      obtain ⟨h3, -⟩ := hu.1.at_ (z := ownNil 3 6 w.heap.size 112 2) (by simp) d3
      obtain ⟨g0, e0, hown0⟩ := h3 hD
      have e1 : γ 3 = .slice (some ⟨g0, 0, none⟩) 0 0 := e0
      obtain rfl : gn = g0 := by rw [g3] at e1; simpa using e1
      have hown1 : u.ownsRow w.heap.size 112 2 (γ 3) 0 [] := hown0
      rw [g3] at hown1
      refine steps_append _ _ 28 rfl w.heap.size 112 2 16 0 (.agg zC) (.slice (some ⟨gn, 0, none⟩) 0 0) [] C M.length cc (flatS ceV M) Tryz.underlying28 info_cel rfl (by omega) rfl hown1 rfl (flatS_length ceV_len) (NW.out u hu.1.1.1.1) (ceV_one M) (by unfold maxLen; omega) (by omega) hu.1.1.1.1.size ?_
      intro v' w' hown hg hb2
      have hrow : ClRow w' w.heap.size v' M := by have h := hown; simp only [Nat.zero_add, List.nil_append] at h; exact h
      obtain ⟨A6, c6, rfl, _, _⟩ := hrow.reads ceV_len
      refine ⟨⟨A6, c6, rfl⟩, ?_⟩
      refine hu.moved hok hstab (y := ownNil 3 6 w.heap.size 112 2) (z := ownRow 6 w.heap.size 112 2 M.length (flatS ceV M)) (p := gn) (by simp) (by simp) rfl rfl d3 (by intro y hy; simp only [List.mem_cons, List.not_mem_nil, or_false] at hy; rcases hy with rfl | rfl | rfl; exact .inr (.inr ⟨(Nat.ne_of_beq_eq_false rfl), (Nat.ne_of_beq_eq_false rfl), (Nat.ne_of_beq_eq_false rfl), rfl, rfl⟩); exact .inr (.inl rfl); exact .inl rfl) (Nat.ne_of_beq_eq_false rfl) ⟨rfl, rfl⟩ hD (Nat.ne_of_beq_eq_false rfl) (show blkOf (γ 3) = [gn] by rw [g3]; rfl) hg hrow (fun e => by cases e) ?_ ?_
      · intro g hgf
        rcases hb2 with h | h
        · left
          cases A6 with
          | none => cases hgf
          | some a => simp [Value.ownBlock] at h; simp only [ownRow, List.mem_singleton] at hgf; omega
        · right
          cases A6 with
          | none => cases hgf
          | some a => simp [Value.ownBlock] at h; simp only [ownRow, List.mem_singleton] at hgf; omega
      · intro g hgf
        cases A6 with
        | none => cases hgf
        | some a => simp only [ownRow, List.mem_singleton] at hgf; subst hgf; exact (hrow.lt rfl).2
    · obtain ⟨z, hz, hzs⟩ := hu.box
      refine steps_store hz rfl rfl (show _ = Value.agg #[.int .i64 cnt, .slice A4 L.length c4, .int .i64 mac, .slice A7 M.length c7] from rfl) (by kernel_rfl) hzs (by simp [Value.oneCell']) (fun w' hc hg => ⟨rfl, hu.stored hok hstab (by intro y hy; simp only [List.mem_cons, List.not_mem_nil, or_false] at hy; rcases hy with rfl | rfl | rfl <;> exact ⟨Nat.ne_of_beq_eq_false rfl, Nat.ne_of_beq_eq_false rfl⟩) (by intro y hy; simp only [List.mem_cons, List.not_mem_nil, or_false] at hy; rcases hy with rfl | rfl; exact hd { on := 2, ground := Ground.phase } (by simp) rfl rfl; exact hd { on := 6, ground := Ground.phase } (by simp) rfl rfl) hg ?_ _⟩)
      show CellsAt w' (w.heap.size + 1) 77 (#[.int .i64 cnt, agg1 (γ 2), .int .i64 mac, γ 6])
      simp only [g2, g6]
      exact hc
  · intro D uf hD hu
    have ho2 : ∃ A c, γ 2 = .agg #[.int .i64 cnt, .slice A L.length c, .int .i64 mac] ∧ TrRow uf w.heap.size (.slice A L.length c) L := (hu.1.at_ (z := ownIn 2 w.heap.size 80 8 L.length (flatS truV L) (fun s => .agg #[.int .i64 cnt, s, .int .i64 mac])) (by simp) (hD 2 (by simp) rfl)).1
    simp only [g2] at ho2
    have ho6 : ClRow uf w.heap.size (γ 6) M := (hu.1.at_ (z := ownRow 6 w.heap.size 112 2 M.length (flatS ceV M)) (by simp) (hD 6 (by simp) rfl)).1
    simp only [g6] at ho6
    obtain ⟨hres0, hf⟩ := hu.done (hD 8 (by simp) rfl)
    have hres : CellsAt uf (w.heap.size + 1) 77 (#[.int .i64 cnt, agg1 (γ 2), .int .i64 mac, γ 6]) := hres0
    simp only [g2, g6] at hres
    clear hres0
    obtain ⟨A8, c8, e8, ho8⟩ := ho2
    simp only [Value.agg.injEq, Array.mk.injEq, List.cons.injEq, Value.slice.injEq, true_and, and_true] at e8
    obtain ⟨rfl, rfl⟩ := e8
    have hdis : ∀ g ∈ blkOf (agg1 (γ 2)), g ∉ blkOf (γ 6) := hu.1.2.2.2.2.2.2.1 (ownIn 2 w.heap.size 80 8 L.length (flatS truV L) (fun s => .agg #[.int .i64 cnt, s, .int .i64 mac])) (by simp) (ownRow 6 w.heap.size 112 2 M.length (flatS ceV M)) (by simp) (Nat.ne_of_beq_eq_false rfl) rfl (hD 2 (by simp) rfl) (hD 6 (by simp) rfl)
    rw [g2, g6] at hdis
    have d0 := hres.cell 0
    have d1 := hres.cell 1
    have d2 := hres.cell 2
    have d3 := hres.cell 3
    go_wp2_with fail
    exact bodyPost_ret (v := .agg #[.int .i64 cnt, .slice A4 L.length c4, .int .i64 mac, .slice A7 M.length c7]) (by simp [results, Tryz.results162, go_sem, d0, d1, d2, d3, agg1]) rfl ⟨A4, c4, A7, c7, rfl, ho8, ho6, hdis, hf.1⟩
noncomputable def volB (key : Int) (l : List Int) (L : List Tru) (M : List Ce) (S : List SlN) (cnt : Int) : Bool :=
  trustsB key l L && (cellsB key l M && (decide (S.length = 2) && (fitB key l (S.getD 0 default).trusts (S.getD 0 default).cells && (fitB key l (S.getD 1 default).trusts (S.getD 1 default).cells && decide (0 ≤ cnt ∧ cnt ≤ 10000)))))
set_option maxRecDepth 20000 in
set_option maxHeartbeats 8000000 in
theorem specVolumeOk_calls (key : Int) (A : Option Addr) (l : List Int) (cap : Nat) (B : Option Addr) (L : List Tru) (tc : Nat) (C : Option Addr) (M : List Ce) (cc : Nat) (E : Option Addr) (S : List SlN) (sc : Nat) (cnt : Int) (w : World)
    (hn : l.length ≤ maxLen) (hA : Ints w .i64 w.heap.size A l) (hL : L.length ≤ 1048576) (hB : Trs w w.heap.size B L) (hM : M.length ≤ 1048576) (hC : Cls w w.heap.size C M) (hS : S.length ≤ 1048576) (hE : Slots w w.heap.size E S) (hF : ∀ i, i < S.length → (S.getD i default).Fits) :
    Calls Tryz.prog 25 #[.agg #[.int .i64 key, .slice A l.length cap, .slice B L.length tc, .slice C M.length cc, .slice E S.length sc, .int .i64 cnt]] w fun e w' => e = .returned (.bool (volB key l L M S cnt)) ∧ Below w.heap.size w w' := by
  have K0 := Lib.hid (show Kept w [(w.heap.size, 31, #[.int .i64 key, .slice A l.length cap, .slice B L.length tc, .slice C M.length cc, .slice E S.length sc, .int .i64 cnt])] _ from (Kept.refl w).put1 _ _ #[.int .i64 key, .slice A l.length cap, .slice B L.length tc, .slice C M.length cc, .slice E S.length sc, .int .i64 cnt] rfl)
  have TS := Lib.hid (fun (u : World) (hb : Below w.heap.size w u) => l10Trusts_calls key A B l cap L tc u hn ((hA.below hb (Nat.le_refl _)).more hb.size) (by unfold maxLen; omega) ((hB.below hb (Nat.le_refl _)).more hb.size))
  have CL := Lib.hid (fun (u : World) (hb : Below w.heap.size w u) => l11Cells_calls key A C l cap M cc u hn ((hA.below hb (Nat.le_refl _)).more hb.size) (by unfold maxLen; omega) ((hC.below hb (Nat.le_refl _)).more hb.size))
  have FS := Lib.hid (fun (s : SlN) (B : Option Addr) (tc : Nat) (C : Option Addr) (cc : Nat) (hs : s.Fits) (hr : SlR w w.heap.size B tc C cc s) (u : World) (hb : Below w.heap.size w u) =>
    l12Slot_calls key A l cap s.count B s.trusts tc s.mac C s.cells cc u hn ((hA.below hb (Nat.le_refl _)).more hb.size) hs.1 hs.2.1 ((hr.2.below hb (Nat.le_refl _)).more hb.size))
  have IN := Lib.hid (fun (u : World) => l1In_b cnt 0 10000 _ u rfl)
  have HE := Lib.hid hE
  have HF := Lib.hid hF
  clear hA hB hC hE hF hn
  unfold volB
  generalize trustsB key l L = ts at TS ⊢
  generalize cellsB key l M = cs at CL ⊢
  generalize decide (0 ≤ cnt ∧ cnt ≤ 10000) = ic at IN ⊢
  cases ts with
  | false =>
    rw [Bool.false_and]
    clear CL FS IN
    go_enter Tryz.func25, Tryz.ntmps25
    go_upto_region 1 with fail
    refine wp_region_class (C := fun u => Kept w [(w.heap.size, 31, #[.int .i64 key, .slice A l.length cap, .slice B L.length tc, .slice C M.length cc, .slice E S.length sc, .int .i64 cnt])] u) (by kernel_rfl) (by kernel_rfl) (K0.out).drew ?_
    iterate 42 (first
      | go_big_quiet_skip
      | (go_big_quiet_want
         go_big_quiet_op
         first
           | go_big_quiet_on
           | (apply Exists.intro
              refine ⟨fun u hu => ?_, ?_⟩
              · first
                  | with_reducible rfl
                  | (go_at_call 66; exact (TS.out u hu.1).mono fun e w' h => ⟨h.1, hu.below h.2⟩)
                  | (obtain ⟨kc0, kf0, -⟩ := hu.rd; go_simp; first | done | with_reducible rfl)
              go_big_quiet_on)))
    refine wpQuiet_nil ?_
    intro uq hq
    go_wp2_with fail
    go_ret
    exact ⟨rfl, hq.1⟩
  | true =>
    rw [Bool.true_and]
    cases cs with
    | false =>
      rw [Bool.false_and]
      clear FS IN
      go_enter Tryz.func25, Tryz.ntmps25
      go_upto_region 1 with fail
      refine wp_region_class (C := fun u => Kept w [(w.heap.size, 31, #[.int .i64 key, .slice A l.length cap, .slice B L.length tc, .slice C M.length cc, .slice E S.length sc, .int .i64 cnt])] u) (by kernel_rfl) (by kernel_rfl) (K0.out).drew ?_
      iterate 42 (first
        | go_big_quiet_skip
        | (go_big_quiet_want
           go_big_quiet_op
           first
             | go_big_quiet_on
             | (apply Exists.intro
                refine ⟨fun u hu => ?_, ?_⟩
                · first
                    | with_reducible rfl
                    | (go_at_call 66; exact (TS.out u hu.1).mono fun e w' h => ⟨h.1, hu.below h.2⟩)
                    | (go_at_call 67; exact (CL.out u hu.1).mono fun e w' h => ⟨h.1, hu.below h.2⟩)
                    | (obtain ⟨kc0, kf0, -⟩ := hu.rd; go_simp; first | done | with_reducible rfl)
                go_big_quiet_on)))
      refine wpQuiet_nil ?_
      intro uq hq
      go_wp2_with fail
      go_ret
      exact ⟨rfl, hq.1⟩
    | true =>
      rw [Bool.true_and]
      by_cases h2 : S.length = 2
      · rw [decide_eq_true h2, Bool.true_and]
        obtain ⟨b, off, e0, hb, B0, tc0, C0, cc0, c0, c1, c2, c3, hr0⟩ := HE.out 0 (by omega)
        obtain ⟨b', off', e1, hb', B1, tc1, C1, cc1, c4, c5, c6, c7, hr1⟩ := HE.out 1 (by omega)
        rw [e0] at e1
        simp only [Option.some.injEq, Addr.mk.injEq, and_true] at e1
        obtain ⟨rfl, rfl⟩ := e1
        subst e0
        have F0 := Lib.hid (FS.out _ B0 tc0 C0 cc0 (HF.out 0 (by omega)) hr0)
        have F1 := Lib.hid (FS.out _ B1 tc1 C1 cc1 (HF.out 1 (by omega)) hr1)
        clear hr0 hr1 FS HE HF hb'
        simp only [Nat.zero_mul, Nat.add_zero, Nat.one_mul] at c0 c1 c2 c3 c4 c5 c6 c7
        rw [show off + 4 + 1 = off + 5 by omega] at c5
        rw [show off + 4 + 2 = off + 6 by omega] at c6
        rw [show off + 4 + 3 = off + 7 by omega] at c7
        generalize fitB key l (S.getD 0 default).trusts (S.getD 0 default).cells = f0 at F0 ⊢
        generalize fitB key l (S.getD 1 default).trusts (S.getD 1 default).cells = f1 at F1 ⊢
        generalize (S.getD 0 default).trusts.length = n0 at c1 F0
        generalize (S.getD 0 default).cells.length = n1 at c3 F0
        generalize (S.getD 1 default).trusts.length = n2 at c5 F1
        generalize (S.getD 1 default).cells.length = n3 at c7 F1
        generalize (S.getD 0 default).count = m0 at c0 F0
        generalize (S.getD 0 default).mac = m1 at c2 F0
        generalize (S.getD 1 default).count = m2 at c4 F1
        generalize (S.getD 1 default).mac = m3 at c6 F1
        have e2 : ((S.length : Int) == 2) = true := beq_iff_eq.2 (by omega)
        have e3 : (S.length == 2) = true := beq_iff_eq.2 h2
        have l0 : (0 : Int) < S.length := by omega
        have l1 : (1 : Int) < S.length := by omega
        have l2 : 0 < S.length := by omega
        have l3 : 1 < S.length := by omega
        clear h2
        cases f0 with
        | false =>
          rw [Bool.false_and]
          clear IN F1
          go_enter Tryz.func25, Tryz.ntmps25
          go_upto_region 1 with fail
          refine wp_region_class (C := fun u => Kept w [(w.heap.size, 31, #[.int .i64 key, .slice A l.length cap, .slice B L.length tc, .slice C M.length cc, .slice (some ⟨b, off, none⟩) S.length sc, .int .i64 cnt])] u) (by kernel_rfl) (by kernel_rfl) (K0.out).drew ?_
          iterate 42 (first
            | go_big_quiet_skip
            | (go_big_quiet_want
               go_big_quiet_op
               first
                 | go_big_quiet_on
                 | (apply Exists.intro
                    refine ⟨fun u hu => ?_, ?_⟩
                    · first
                        | with_reducible rfl
                        | (go_at_call 66; exact (TS.out u hu.1).mono fun e w' h => ⟨h.1, hu.below h.2⟩)
                        | (go_at_call 67; exact (CL.out u hu.1).mono fun e w' h => ⟨h.1, hu.below h.2⟩)
                        | (go_at_call 68; exact (F0.out u hu.1).mono fun e w' h => ⟨h.1, hu.below h.2⟩)
                        | (obtain ⟨kc0, kf0, -⟩ := hu.rd; have d0 := (hu.1.cell (p := ⟨b, off, none⟩) hb).trans c0; have d1 := (hu.1.cell (p := ⟨b, off + 1, none⟩) hb).trans c1; have d2 := (hu.1.cell (p := ⟨b, off + 2, none⟩) hb).trans c2; have d3 := (hu.1.cell (p := ⟨b, off + 3, none⟩) hb).trans c3; have d4 := (hu.1.cell (p := ⟨b, off + 4, none⟩) hb).trans c4; have d5 := (hu.1.cell (p := ⟨b, off + 5, none⟩) hb).trans c5; have d6 := (hu.1.cell (p := ⟨b, off + 6, none⟩) hb).trans c6; have d7 := (hu.1.cell (p := ⟨b, off + 7, none⟩) hb).trans c7; go_simp; first | done | with_reducible rfl)
                    go_big_quiet_on)))
          refine wpQuiet_nil ?_
          intro uq hq
          go_wp2_with fail
          go_ret
          exact ⟨rfl, hq.1⟩
        | true =>
          rw [Bool.true_and]
          cases f1 with
          | false =>
            rw [Bool.false_and]
            clear IN
            go_enter Tryz.func25, Tryz.ntmps25
            go_upto_region 1 with fail
            refine wp_region_class (C := fun u => Kept w [(w.heap.size, 31, #[.int .i64 key, .slice A l.length cap, .slice B L.length tc, .slice C M.length cc, .slice (some ⟨b, off, none⟩) S.length sc, .int .i64 cnt])] u) (by kernel_rfl) (by kernel_rfl) (K0.out).drew ?_
            iterate 26 (first
              | go_big_quiet_skip
              | (go_big_quiet_want
                 go_big_quiet_op
                 first
                   | go_big_quiet_on
                   | (apply Exists.intro
                      refine ⟨fun u hu => ?_, ?_⟩
                      · first
                          | with_reducible rfl
                          | (go_at_call 66; exact (TS.out u hu.1).mono fun e w' h => ⟨h.1, hu.below h.2⟩)
                          | (go_at_call 67; exact (CL.out u hu.1).mono fun e w' h => ⟨h.1, hu.below h.2⟩)
                          | (go_at_call 68; exact (F0.out u hu.1).mono fun e w' h => ⟨h.1, hu.below h.2⟩)
                          | (obtain ⟨kc0, kf0, -⟩ := hu.rd; have d0 := (hu.1.cell (p := ⟨b, off, none⟩) hb).trans c0; have d1 := (hu.1.cell (p := ⟨b, off + 1, none⟩) hb).trans c1; have d2 := (hu.1.cell (p := ⟨b, off + 2, none⟩) hb).trans c2; have d3 := (hu.1.cell (p := ⟨b, off + 3, none⟩) hb).trans c3; have d4 := (hu.1.cell (p := ⟨b, off + 4, none⟩) hb).trans c4; have d5 := (hu.1.cell (p := ⟨b, off + 5, none⟩) hb).trans c5; have d6 := (hu.1.cell (p := ⟨b, off + 6, none⟩) hb).trans c6; have d7 := (hu.1.cell (p := ⟨b, off + 7, none⟩) hb).trans c7; go_simp; first | done | with_reducible rfl)
                      go_big_quiet_on)))
            iterate 16 (first
              | go_big_quiet_skip
              | (go_big_quiet_want
                 go_big_quiet_op
                 first
                   | go_big_quiet_on
                   | (apply Exists.intro
                      refine ⟨fun u hu => ?_, ?_⟩
                      · first
                          | with_reducible rfl
                          | (go_at_call 68; exact (F1.out u hu.1).mono fun e w' h => ⟨h.1, hu.below h.2⟩)
                          | (obtain ⟨kc0, kf0, -⟩ := hu.rd; have d0 := (hu.1.cell (p := ⟨b, off, none⟩) hb).trans c0; have d1 := (hu.1.cell (p := ⟨b, off + 1, none⟩) hb).trans c1; have d2 := (hu.1.cell (p := ⟨b, off + 2, none⟩) hb).trans c2; have d3 := (hu.1.cell (p := ⟨b, off + 3, none⟩) hb).trans c3; have d4 := (hu.1.cell (p := ⟨b, off + 4, none⟩) hb).trans c4; have d5 := (hu.1.cell (p := ⟨b, off + 5, none⟩) hb).trans c5; have d6 := (hu.1.cell (p := ⟨b, off + 6, none⟩) hb).trans c6; have d7 := (hu.1.cell (p := ⟨b, off + 7, none⟩) hb).trans c7; go_simp; first | done | with_reducible rfl)
                      go_big_quiet_on)))
            refine wpQuiet_nil ?_
            intro uq hq
            go_wp2_with fail
            go_ret
            exact ⟨rfl, hq.1⟩
          | true =>
            rw [Bool.true_and]
            go_enter Tryz.func25, Tryz.ntmps25
            go_upto_region 1 with fail
            refine wp_region_class (C := fun u => Kept w [(w.heap.size, 31, #[.int .i64 key, .slice A l.length cap, .slice B L.length tc, .slice C M.length cc, .slice (some ⟨b, off, none⟩) S.length sc, .int .i64 cnt])] u) (by kernel_rfl) (by kernel_rfl) (K0.out).drew ?_
            iterate 26 (first
              | go_big_quiet_skip
              | (go_big_quiet_want
                 go_big_quiet_op
                 first
                   | go_big_quiet_on
                   | (apply Exists.intro
                      refine ⟨fun u hu => ?_, ?_⟩
                      · first
                          | with_reducible rfl
                          | (go_at_call 66; exact (TS.out u hu.1).mono fun e w' h => ⟨h.1, hu.below h.2⟩)
                          | (go_at_call 67; exact (CL.out u hu.1).mono fun e w' h => ⟨h.1, hu.below h.2⟩)
                          | (go_at_call 68; exact (F0.out u hu.1).mono fun e w' h => ⟨h.1, hu.below h.2⟩)
                          | (obtain ⟨kc0, kf0, -⟩ := hu.rd; have d0 := (hu.1.cell (p := ⟨b, off, none⟩) hb).trans c0; have d1 := (hu.1.cell (p := ⟨b, off + 1, none⟩) hb).trans c1; have d2 := (hu.1.cell (p := ⟨b, off + 2, none⟩) hb).trans c2; have d3 := (hu.1.cell (p := ⟨b, off + 3, none⟩) hb).trans c3; have d4 := (hu.1.cell (p := ⟨b, off + 4, none⟩) hb).trans c4; have d5 := (hu.1.cell (p := ⟨b, off + 5, none⟩) hb).trans c5; have d6 := (hu.1.cell (p := ⟨b, off + 6, none⟩) hb).trans c6; have d7 := (hu.1.cell (p := ⟨b, off + 7, none⟩) hb).trans c7; go_simp; first | done | with_reducible rfl)
                      go_big_quiet_on)))
            iterate 16 (first
              | go_big_quiet_skip
              | (go_big_quiet_want
                 go_big_quiet_op
                 first
                   | go_big_quiet_on
                   | (apply Exists.intro
                      refine ⟨fun u hu => ?_, ?_⟩
                      · first
                          | with_reducible rfl
                          | (go_at_call 68; exact (F1.out u hu.1).mono fun e w' h => ⟨h.1, hu.below h.2⟩)
                          | (go_at_call 69; exact class_same hu (IN.out u))
                          | (obtain ⟨kc0, kf0, -⟩ := hu.rd; have d0 := (hu.1.cell (p := ⟨b, off, none⟩) hb).trans c0; have d1 := (hu.1.cell (p := ⟨b, off + 1, none⟩) hb).trans c1; have d2 := (hu.1.cell (p := ⟨b, off + 2, none⟩) hb).trans c2; have d3 := (hu.1.cell (p := ⟨b, off + 3, none⟩) hb).trans c3; have d4 := (hu.1.cell (p := ⟨b, off + 4, none⟩) hb).trans c4; have d5 := (hu.1.cell (p := ⟨b, off + 5, none⟩) hb).trans c5; have d6 := (hu.1.cell (p := ⟨b, off + 6, none⟩) hb).trans c6; have d7 := (hu.1.cell (p := ⟨b, off + 7, none⟩) hb).trans c7; go_simp; first | done | with_reducible rfl)
                      go_big_quiet_on)))
            refine wpQuiet_nil ?_
            intro uq hq
            go_wp2_with fail
            go_ret
            exact ⟨rfl, hq.1⟩
      · rw [decide_eq_false h2, Bool.false_and]
        have e2 : ((S.length : Int) == 2) = false := beq_false_of_ne (by omega)
        have e3 : (S.length == 2) = false := beq_false_of_ne h2
        clear h2 FS IN
        go_enter Tryz.func25, Tryz.ntmps25
        go_upto_region 1 with fail
        refine wp_region_class (C := fun u => Kept w [(w.heap.size, 31, #[.int .i64 key, .slice A l.length cap, .slice B L.length tc, .slice C M.length cc, .slice E S.length sc, .int .i64 cnt])] u) (by kernel_rfl) (by kernel_rfl) (K0.out).drew ?_
        iterate 42 (first
          | go_big_quiet_skip
          | (go_big_quiet_want
             go_big_quiet_op
             first
               | go_big_quiet_on
               | (apply Exists.intro
                  refine ⟨fun u hu => ?_, ?_⟩
                  · first
                      | with_reducible rfl
                      | (go_at_call 66; exact (TS.out u hu.1).mono fun e w' h => ⟨h.1, hu.below h.2⟩)
                      | (go_at_call 67; exact (CL.out u hu.1).mono fun e w' h => ⟨h.1, hu.below h.2⟩)
                      | (obtain ⟨kc0, kf0, -⟩ := hu.rd; go_simp; first | done | with_reducible rfl)
                  go_big_quiet_on)))
        refine wpQuiet_nil ?_
        intro uq hq
        go_wp2_with fail
        go_ret
        exact ⟨rfl, hq.1⟩
end Go.Proofs.YtgaecedhkbneaaaGreatDoor.Mx

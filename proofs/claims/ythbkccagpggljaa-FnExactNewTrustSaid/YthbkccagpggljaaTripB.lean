/- CONTRACTS OF impl.tagsOf (a new map from each triple of the list to its tag) AND impl.TagOf. -/
import Derived.Test.YthbkccagpggljaaTMap
import Derived.Deep.RegionWith
namespace Go.Proofs.Ythbkccagpggljaa.Mx
open Go.ChangeShapes Go.WideShapes Go.ChangeAt Go.RowKit Go.Maps
set_option linter.unusedVariables false

abbrev Tri := Int × Int × Int
/-- A slice at address A of length L.length reads as the triples L, and lies below block B. -/
def Tris (w : World) (B : Nat) (A : Option Addr) (L : List Tri) : Prop :=
  ∀ i, i < L.length → ∃ b off, A = some ⟨b, off, none⟩ ∧ b < B ∧ w.cell? ⟨b, off + i * 3, none⟩ = some (.int .i64 (L.getD i (0, 0, 0)).1) ∧ w.cell? ⟨b, off + i * 3 + 1, none⟩ = some (.int .i64 (L.getD i (0, 0, 0)).2.1) ∧ w.cell? ⟨b, off + i * 3 + 2, none⟩ = some (.int .i64 (L.getD i (0, 0, 0)).2.2)
/-- Each triple's numbers fit an int64. -/
def TriI (L : List Tri) : Prop := ∀ i, i < L.length → I64 (L.getD i (0, 0, 0)).1 ∧ I64 (L.getD i (0, 0, 0)).2.1 ∧ I64 (L.getD i (0, 0, 0)).2.2
theorem Tris.below {w w' : World} {B B' : Nat} {A : Option Addr} {L : List Tri} (h : Tris w B A L) (hb : Below B' w w') (hB : B ≤ B') : Tris w' B A L := by
  intro i hi
  obtain ⟨b, off, rfl, hlt, c0, c1, c2⟩ := h i hi
  have f := fun o => hb.cell (p := ⟨b, o, none⟩) (Nat.lt_of_lt_of_le hlt hB)
  exact ⟨b, off, rfl, hlt, (f _).trans c0, (f _).trans c1, (f _).trans c2⟩
theorem Tris.more {w : World} {B B' : Nat} {A : Option Addr} {L : List Tri} (h : Tris w B A L) (hB : B ≤ B') : Tris w B' A L := by
  intro i hi
  obtain ⟨b, off, e, hlt, c⟩ := h i hi
  exact ⟨b, off, e, Nat.lt_of_lt_of_le hlt hB, c⟩
theorem getD_mem {L : List Tri} {k : Nat} (h : k < L.length) : L.getD k (0, 0, 0) ∈ L := by
  rw [List.getD_eq_getElem?_getD, List.getElem?_eq_getElem h]; exact List.getElem_mem h
/-- The tags of the triples of a list, under themselves. -/
noncomputable def tagsHeld (key : Int) (L : List Tri) : Held := fun a t v => if (a, t, v) ∈ L then some (tagOf key a t v) else Option.none
theorem tagsHeld_nil (key : Int) : tagsHeld key [] = Held.none := by funext a t v; simp [tagsHeld, Held.none]
theorem tagsHeld_snoc (key : Int) (L : List Tri) (a t v : Int) : tagsHeld key (L ++ [(a, t, v)]) = (tagsHeld key L).put a t v (tagOf key a t v) := by
  funext x y z
  by_cases e : x = a ∧ y = t ∧ z = v
  · obtain ⟨rfl, rfl, rfl⟩ := e; simp [tagsHeld, Held.put]
  · simp [tagsHeld, Held.put, e]
theorem tagsHeld_there (key : Int) (L : List Tri) (a t v : Int) (h : (a, t, v) ∈ L) : tagsHeld key (L ++ [(a, t, v)]) = tagsHeld key L := by
  funext x y z
  by_cases e : x = a ∧ y = t ∧ z = v
  · obtain ⟨rfl, rfl, rfl⟩ := e; simp [tagsHeld, h]
  · simp [tagsHeld, e]
theorem take_snoc {L : List Tri} {k : Nat} (h : k < L.length) : L.take (k + 1) = L.take k ++ [L.getD k (0, 0, 0)] := by
  rw [List.take_succ_eq_append_getElem h, List.getD_eq_getElem?_getD, List.getElem?_eq_getElem h]; rfl
theorem i64_tag (key a t v : Int) : I64 (tagOf key a t v) := by have := tagOf_bd key a t v; exact ⟨by omega, by omega⟩

set_option maxHeartbeats 1000000 in
theorem tagsOf_calls (key : Int) (A : Option Addr) (L : List Tri) (cap : Nat) (w : World) (hn : L.length < maxLen) (hA : Tris w w.heap.size A L) (hI : TriI L) :
    Calls Try.prog 62 #[.int .i64 key, .slice A L.length cap] w fun e w' => e = .returned (.map (some w.heap.size)) ∧ TMap w' w.heap.size L.length (tagsHeld key L) ∧ Below w.heap.size w w' := by
  have hm := hn
  unfold maxLen at hm
  have hmm := @run_makeMap Try.prog
  have HA := Lib.hid hA
  have HI := Lib.hid hI
  have HN := Lib.hid hn
  clear hA hI hn
  go_enter Try.func62, Try.ntmps62
  go_wp2_with fail
  clear hmm
  go_loopw [13] (fun i wr => ∃ k : Nat, k ≤ L.length ∧ i = .int .i64 k ∧ Below w.heap.size w wr ∧ TMap wr w.heap.size k (tagsHeld key (L.take k))) (fun i _ => L.length - (intOf i).toNat)
  case atStart => exact ⟨0, Nat.zero_le _, rfl, (Below.refl _ _).alloc (Nat.le_refl _) _, by rw [List.take_zero, tagsHeld_nil]; exact TMap.made w⟩
  case round =>
    obtain ⟨k, hk, rfl, hbel, hmap⟩ := hrel
    have HB := Lib.hid hbel
    have HM := Lib.hid hmap
    have hAr := HA.out.below hbel (Nat.le_refl _)
    clear hbel hmap
    by_cases hlt : k < L.length
    · obtain ⟨b, off, rfl, hb, c0, c1, c2⟩ := hAr k hlt
      have hlt' : (k : Int) < L.length := by omega
      have hk0 : (0 : Int) ≤ k := by omega
      have HS := Lib.hid (take_snoc hlt)
      have HT := Lib.hid (HI.out k hlt)
      clear hAr
      generalize L.getD k (0, 0, 0) = T at c0 c1 c2 HS HT
      obtain ⟨a, t, v⟩ := T
      simp only at c0 c1 c2
      have I1 := HT.out.1
      have I2 := HT.out.2.1
      have I3 := HT.out.2.2
      simp only at I1 I2 I3
      have J1 := Lib.hid I1
      have J2 := Lib.hid I2
      have J3 := Lib.hid I3
      clear I1 I2 I3 HT
      have HC := Lib.hid (fun w => tagged_calls key a t v w)
      have HK := Lib.hid (i64_tag key a t v)
      by_cases hin : (a, t, v) ∈ L.take k
      · have hs : (tagsHeld key (L.take k) a t v).isSome = true := by simp [tagsHeld, hin]
        have HQ := Lib.hid hs
        have HE := Lib.hid (tagsHeld_there key (L.take k) a t v hin)
        clear hs hin
        go_wp2_with (at_lookup; refine tm_look_ok _ rfl _ _ rfl w.heap.size k (tagsHeld key (L.take k)) rfl (HM.out.alloc _) a t v rfl J1.out J2.out J3.out ?_; rw [HQ.out])
        go_roundw
        case rel => exact ⟨k + 1, by omega, by go_num, HB.out.alloc HB.out.size _, by rw [HS.out, HE.out]; exact (HM.out.alloc _).mono (by omega)⟩
        case measure => simp [intOf]; omega
      · have hs : (tagsHeld key (L.take k) a t v).isSome = false := by simp [tagsHeld, hin]
        have HQ := Lib.hid hs
        have HE := Lib.hid (tagsHeld_snoc key (L.take k) a t v)
        clear hs hin
        generalize tagOf key a t v = d at HC HK HE
        go_wp2_with (at_lookup; refine tm_look_ok _ rfl _ _ rfl w.heap.size k (tagsHeld key (L.take k)) rfl (HM.out.alloc _) a t v rfl J1.out J2.out J3.out ?_; rw [HQ.out])
        go_region_with (go_at_call 69; refine (HC.out _).mono ?_; rintro e wx ⟨rfl, bx⟩; go_loud (have hx : TMap wx w.heap.size k (tagsHeld key (L.take k)) := TMap.below (TMap.drew (HM.out.alloc _)) bx (Nat.lt_of_lt_of_le HM.out.lt (by simp [World.drew]))); obtain ⟨w2, hrun, hm2, hg2⟩ := hx.put (by unfold maxLen; omega) J1.out J2.out J3.out HK.out; have hcx := (CellsAt.new wr 46 #[.int .i64 a, .int .i64 t, .int .i64 v]).drew.below bx (by simp [World.drew]); have d0 : wx.cell? ⟨wr.heap.size, 0, none⟩ = some (.int .i64 a) := hcx.cell 0; have d1 : wx.cell? ⟨wr.heap.size, 1, none⟩ = some (.int .i64 t) := hcx.cell 1; have d2 : wx.cell? ⟨wr.heap.size, 2, none⟩ = some (.int .i64 v) := hcx.cell 2; clear hcx; have BX := Lib.hid bx; have M2 := Lib.hid hm2; have G2 := Lib.hid hg2; clear bx hx hm2 hg2)
        all_goals
          go_wp2_with fail
          go_roundw
          case rel =>
            refine ⟨k + 1, by omega, by go_num, ?_, by rw [HS.out, HE.out]; exact M2.out⟩
            exact bgb ((HB.out.alloc HB.out.size _).drew.trans (BX.out.mono (show w.heap.size ≤ _ from Nat.le_trans HB.out.size (by simp [World.drew])))) G2.out (Nat.le_trans HB.out.size (Nat.le_trans (by simp [World.drew]) BX.out.size)) (Nat.le_refl _)
          case measure => simp [intOf]; omega
    · have hk' : k = L.length := by omega
      clear hAr
      have HQ := Lib.hid (show L.take k = L by rw [hk', List.take_length])
      have HK := Lib.hid hk'
      clear hk'
      go_wp2_with fail
      go_ret
      exact ⟨rfl, by have := HM.out; rw [HQ.out] at this; exact this.mono hk, HB.out⟩

/-- One triple that lies there: a new map holds it. -/
def OneTag (key a t v : Int) (u : World) (e : Ending) (w' : World) : Prop :=
  ∃ m, e = .returned (.map (some m)) ∧ TMap w' m 1 (tagsHeld key [(a, t, v)]) ∧ Below u.heap.size u w'
theorem tagsOf_one (key a t v : Int) (g : Nat) (u : World) (hb : CellsAt u g 46 #[.int .i64 a, .int .i64 t, .int .i64 v]) (ha : I64 a) (ht : I64 t) (hv : I64 v) :
    Calls Try.prog 62 #[.int .i64 key, .slice (some ⟨g, 0, none⟩) 1 1] u (OneTag key a t v u) := by
  refine (tagsOf_calls key (some ⟨g, 0, none⟩) [(a, t, v)] 1 u (by simp [maxLen])
    (fun i hi => by
      obtain rfl : i = 0 := by simp at hi; omega
      exact ⟨_, 0, rfl, hb.lt, hb.cell 0, hb.cell 1, hb.cell 2⟩)
    (fun i hi => by
      obtain rfl : i = 0 := by simp at hi; omega
      exact ⟨ha, ht, hv⟩)).mono ?_
  rintro e w' ⟨rfl, hm, h⟩
  exact ⟨_, rfl, hm, h⟩

/-- What stands behind that call inside TagOf: the tag can be looked up, and the triple laid first still lies there. -/
def OneTagB (key a t v : Int) (w : World) (e : Ending) (w' : World) : Prop :=
  ∃ m, e = .returned (.map (some m)) ∧ (Instr.lookup 82 (.map (some m)) (.agg #[.int .i64 a, .int .i64 t, .int .i64 v]) false).run Try.prog w' = .ok (.int .i64 (tagOf key a t v)) w' ∧
    w'.cell? ⟨w.heap.size, 0, none⟩ = some (.int .i64 a) ∧ w'.cell? ⟨w.heap.size, 1, none⟩ = some (.int .i64 t) ∧ w'.cell? ⟨w.heap.size, 2, none⟩ = some (.int .i64 v) ∧ Below w.heap.size w w'
theorem tagsOf_boxed (key a t v : Int) (w : World) (ha : I64 a) (ht : I64 t) (hv : I64 v) :
    Calls Try.prog 62 #[.int .i64 key, .slice (some ⟨w.heap.size + 1, 0, none⟩) 1 1]
      ((w.alloc (.cells #[.int .i64 a, .int .i64 t, .int .i64 v] 46)).alloc (.cells #[.int .i64 a, .int .i64 t, .int .i64 v] 46)).drew (OneTagB key a t v w) := by
  have h0 := CellsAt.new w 46 #[.int .i64 a, .int .i64 t, .int .i64 v]
  have h1 := CellsAt.new (w.alloc (.cells #[.int .i64 a, .int .i64 t, .int .i64 v] 46)) 46 #[.int .i64 a, .int .i64 t, .int .i64 v]
  rw [show (w.alloc (.cells #[.int .i64 a, .int .i64 t, .int .i64 v] 46)).heap.size = w.heap.size + 1 by simp] at h1
  refine (tagsOf_one key a t v _ _ h1.drew ha ht hv).mono ?_
  rintro e w' ⟨m, rfl, hm, hb⟩
  have hr := hm.look ha ht hv
  rw [show (tagsHeld key [(a, t, v)] a t v).getD 0 = tagOf key a t v by simp [tagsHeld]] at hr
  have h2 := (h0.below ((Below.refl (w.heap.size + 1) _).alloc (by simp) _) (by omega)).drew.below hb (by simp [World.drew]; omega)
  exact ⟨m, rfl, hr, h2.cell 0, h2.cell 1, h2.cell 2, ((((Below.refl w.heap.size w).alloc (Nat.le_refl _) _).alloc (by simp) _).drew).trans (hb.mono (by simp [World.drew]; omega))⟩

set_option maxHeartbeats 1000000 in
theorem tag_calls (key a t v : Int) (w : World) (ha : I64 a) (ht : I64 t) (hv : I64 v) :
    Calls Try.prog 53 #[.int .i64 key, .agg #[.int .i64 a, .int .i64 t, .int .i64 v]] w fun e w' => e = .returned (.int .i64 (tagOf key a t v)) ∧ Below w.heap.size w w' := by
  have HC := Lib.hid (tagsOf_boxed key a t v w ha ht hv)
  unfold OneTagB at HC
  generalize tagOf key a t v = d at HC
  clear ha ht hv
  go_enter Try.func53, Try.ntmps53
  go_wp2_with fail
  go_region_with (go_at_call 62; refine HC.out.mono ?_; rintro e wx ⟨m, rfl, hrun, d0, d1, d2, bx⟩; have BX := Lib.hid bx; clear bx)
  all_goals
    go_wp2_with fail
    go_ret
    exact ⟨rfl, BX.out⟩
end Go.Proofs.Ythbkccagpggljaa.Mx

import Derived.Test.YtgaecedhkbneaaaGreatDoorH03
import Derived.Maps.OwnSet
import Derived.DeepKeys4
import Derived.MapViews
import Derived.Deep.RegionWith
import Derived.Deep.AppendLies
import Derived.Test.YtgaecedhkbneaaaGreatDoorH01
import Derived.Deep.QuietTactic
import Derived.BigQuiet
namespace Go.Proofs.YtgaecedhkbneaaaGreatDoor.Mx
open Go.ChangeShapes Go.WideShapes Go.ChangeAt Go.RowKit Go.Maps
set_option linter.unusedVariables false
theorem laid : laidOutB Tryz.prog = true := by kernel_rfl
theorem triRow : (137 : TypeId) < Tryz.prog.types.size := of_decide_eq_true (by kernel_rfl)
theorem triKeyAt : Tryz.prog.keyTypeAt 3 137 = true := by kernel_rfl
set_option maxRecDepth 20000 in
theorem triWide : (match Tryz.prog.underlying 137 with | some (.array _ _) | some (.struct _) => true | _ => false) = true := by kernel_rfl
set_option maxRecDepth 20000 in
theorem triLaw : Keyed Tryz.prog 137 := Keyed.of_law (deep_law_laid laid (m := 3) (by omega) triRow triKeyAt triWide)
theorem triType : Tryz.prog.keyType 137 = true := by kernel_rfl
theorem triCells : Tryz.prog.cellsOf 137 = 3 := by kernel_rfl
theorem i64Cells : Tryz.prog.cellsOf 2 = 1 := by kernel_rfl
theorem i64Zero (w : World) : (zeroValue 2).run Tryz.prog w = .ok (.int .i64 0) w := by kernel_rfl
def tkey (a t v : Int) : Lit := .string (keyBytes [.int .i64 a, .int .i64 t, .int .i64 v])
theorem tkey_of {a t v : Int} (ha : I64 a) (ht : I64 t) (hv : I64 v) : keyOf Tryz.prog 137 (.agg #[.int .i64 a, .int .i64 t, .int .i64 v]) = some (tkey a t v) := by
  obtain ⟨m, hm⟩ : ∃ m, m + 1 = Tryz.prog.types.size := ⟨Tryz.prog.types.size - 1, Nat.sub_add_cancel (Nat.lt_of_le_of_lt (Nat.zero_le _) triRow)⟩
  have w1 : (Lit.int .i64 a).wf = true := WalkArith.wf_i64 ⟨ha.1, ha.2⟩
  have w2 : (Lit.int .i64 t).wf = true := WalkArith.wf_i64 ⟨ht.1, ht.2⟩
  have w3 : (Lit.int .i64 v).wf = true := WalkArith.wf_i64 ⟨hv.1, hv.2⟩
  unfold keyOf
  simp only [Tryz.underlying137]
  rw [triType, ← hm]
  clear hm
  simp [triCells, i64Cells, Value.formed, Tryz.underlying137, Value.cells, Program.keyLits, Tryz.underlying2, w1, w2, w3, tkey]
theorem tkey_inj {a t v a' t' v' : Int} (ha : I64 a) (ht : I64 t) (hv : I64 v) (ha' : I64 a') (ht' : I64 t') (hv' : I64 v') (h : tkey a t v = tkey a' t' v') : a = a' ∧ t = t' ∧ v = v' := by
  have := triLaw.inj (tkey_of ha ht hv) (h ▸ tkey_of ha' ht' hv')
  simpa using this
theorem tkey_lit (a t v : Int) : WideAt.IsKeyLit (tkey a t v) := trivial
abbrev Held := Int → Int → Int → Option Int
def Held.none : Held := fun _ _ _ => Option.none
def Held.put (f : Held) (a t v d : Int) : Held := fun x y z => if x = a ∧ y = t ∧ z = v then some d else f x y z
def TMap (w : World) (b n : Nat) (f : Held) : Prop :=
  ∃ D : DataW Unit, w.ownsMap Tryz.prog 137 (plainElem Tryz.prog 2) b n D ∧
    ∀ a t v, I64 a → I64 t → I64 v → Maps.has D (tkey a t v) = (f a t v).isSome ∧ D.atKey (tkey a t v) (.lit (.int .i64 0)) = .lit (.int .i64 ((f a t v).getD 0))
theorem TMap.lt {w : World} {b n : Nat} {f : Held} (h : TMap w b n f) : b < w.heap.size := let ⟨_, h, _⟩ := h; h.lt
theorem TMap.mono {w : World} {b n n' : Nat} {f : Held} (h : TMap w b n f) (hn : n ≤ n') : TMap w b n' f := let ⟨D, h, k⟩ := h; ⟨D, h.mono hn, k⟩
theorem TMap.below {w w' : World} {b n B : Nat} {f : Held} (h : TMap w b n f) (hb : Below B w w') (hB : b < B) : TMap w' b n f := by
  obtain ⟨D, ⟨es, clock, hh, r⟩, k⟩ := h
  exact ⟨D, ⟨es, clock, (hb.block b hB).trans hh, r⟩, k⟩
theorem TMap.alloc {w : World} {b n : Nat} {f : Held} (h : TMap w b n f) (o : Obj) : TMap (w.alloc o) b n f := let ⟨D, h, k⟩ := h; ⟨D, h.alloc o, k⟩
theorem TMap.drew {w : World} {b n : Nat} {f : Held} (h : TMap w b n f) : TMap w.drew b n f := h
theorem TMap.made (w : World) : TMap (w.alloc (.map #[] 0)) w.heap.size 0 Held.none :=
  ⟨.map [], World.ownsMap_made _ _ _ _, fun a t v _ _ _ => ⟨rfl, rfl⟩⟩
theorem TMap.put {w : World} {b n : Nat} {f : Held} (hown : TMap w b n f) (hn : n < maxLen) {i j k d : Int} (hi : I64 i) (hj : I64 j) (hk : I64 k) (hd : I64 d) :
    ∃ w', (Instr.mapUpdate 257 (.map (some b)) (.agg #[.int .i64 i, .int .i64 j, .int .i64 k]) (.int .i64 d)).run Tryz.prog w = .ok () w' ∧ TMap w' b (n + 1) (f.put i j k d) ∧ w.grownBy w' (some b) := by
  obtain ⟨D, h, hD⟩ := hown
  obtain ⟨w', hr, h', hg'⟩ := h.update triLaw Tryz.underlying257 hn (tkey_of hi hj hk) (plainElem_int (H := Unit) Tryz.underlying2 (WalkArith.wf_i64 ⟨hd.1, hd.2⟩))
  refine ⟨w', hr, ⟨_, h', fun a t v ha ht hv => ?_⟩, hg'⟩
  by_cases e : a = i ∧ t = j ∧ v = k
  · obtain ⟨rfl, rfl, rfl⟩ := e
    rw [has_put_same h.isMap (tkey_lit _ _ _), atKey_put_same h.isMap (tkey_lit _ _ _)]
    simp [Held.put]
  · have hne : tkey a t v ≠ tkey i j k := fun e' => e (tkey_inj ha ht hv hi hj hk e')
    rw [has_put_other hne, atKey_put_other hne]
    simp only [Held.put, if_neg e]
    exact hD a t v ha ht hv
theorem TMap.look {w : World} {b n : Nat} {f : Held} (hown : TMap w b n f) {i j k : Int} (hi : I64 i) (hj : I64 j) (hk : I64 k) :
    (Instr.lookup 257 (.map (some b)) (.agg #[.int .i64 i, .int .i64 j, .int .i64 k]) false).run Tryz.prog w = .ok (.int .i64 ((f i j k).getD 0)) w := by
  obtain ⟨D, h, hD⟩ := hown
  obtain ⟨c, hr, hc, _⟩ := h.lookup_int triLaw Tryz.underlying257 Tryz.underlying2 (i64Zero _) (tkey_of hi hj hk)
  rw [(hD i j k hi hj hk).2] at hc
  simp only [DataW.lit.injEq, Lit.int.injEq, true_and] at hc
  rw [hc]; exact hr
section
variable (w : World) {ops : Array Oper} {rest : List Oper} {o : Oper} {a : Act} {Q : Exit → Act → World → Prop}
theorem tm_look_ok (hg : o.guard = none) (m x : Operand) (hop : o.op = Op.lookup 257 m x true) (b n : Nat) (f : Held) (hm : a.eval m = .map (some b)) (hown : TMap w b n f)
    (i j k : Int) (hx : a.eval x = .agg #[.int .i64 i, .int .i64 j, .int .i64 k]) (hi : I64 i) (hj : I64 j) (hk : I64 k)
    (hK : wpList Tryz.prog ops Q rest (a.put o.dst (.tuple #[.int .i64 ((f i j k).getD 0), .bool (f i j k).isSome])) w) : wpList Tryz.prog ops Q (o :: rest) a w := by
  obtain ⟨D, h, hD⟩ := hown
  refine wpList_lookup_own_ok_int _ hg m x 257 hop 137 2 .i64 triLaw Tryz.underlying257 Tryz.underlying2 (i64Zero _) b n D hm h _ _ hx (tkey_of hi hj hk) ?_
  intro c hc _
  rw [(hD i j k hi hj hk).2] at hc
  simp only [DataW.lit.injEq, Lit.int.injEq, true_and] at hc
  rw [← hc, (hD i j k hi hj hk).1]; exact hK
end
abbrev Tri := Int × Int × Int
def Tris (w : World) (B : Nat) (A : Option Addr) (L : List Tri) : Prop :=
  ∀ i, i < L.length → ∃ b off, A = some ⟨b, off, none⟩ ∧ b < B ∧ w.cell? ⟨b, off + i * 3, none⟩ = some (.int .i64 (L.getD i (0, 0, 0)).1) ∧ w.cell? ⟨b, off + i * 3 + 1, none⟩ = some (.int .i64 (L.getD i (0, 0, 0)).2.1) ∧ w.cell? ⟨b, off + i * 3 + 2, none⟩ = some (.int .i64 (L.getD i (0, 0, 0)).2.2)
def TriI (L : List Tri) : Prop := ∀ i, i < L.length → I64 (L.getD i (0, 0, 0)).1 ∧ I64 (L.getD i (0, 0, 0)).2.1 ∧ I64 (L.getD i (0, 0, 0)).2.2
theorem Tris.below {w w' : World} {B B' : Nat} {A : Option Addr} {L : List Tri} (h : Tris w B A L) (hb : Below B' w w') (hB : B ≤ B') : Tris w' B A L := by
  intro i hi
  obtain ⟨b, off, rfl, hlt, c0, c1, c2⟩ := h i hi
  have f := fun o => hb.cell (p := ⟨b, o, none⟩) (Nat.lt_of_lt_of_le hlt hB)
  exact ⟨b, off, rfl, hlt, (f _).trans c0, (f _).trans c1, (f _).trans c2⟩
noncomputable def tagsHeld (key : Int) (L : List Tri) : Held := fun a t v => if (a, t, v) ∈ L then some (tagOf key a t v) else Option.none
theorem tagsHeld_nil (key : Int) : tagsHeld key [] = Held.none := by funext a t v; simp [tagsHeld, Held.none]
theorem tagsHeld_snoc (key : Int) (L : List Tri) (a t v : Int) : tagsHeld key (L ++ [(a, t, v)]) = (tagsHeld key L).put a t v (tagOf key a t v) := by
  funext x y z
  by_cases e : x = a ∧ y = t ∧ z = v
  · obtain ⟨rfl, rfl, rfl⟩ := e; simp [tagsHeld, Held.put]
  · simp [tagsHeld, Held.put, e]
theorem tagsHeld_there (key : Int) (L : List Tri) (a t v : Int) (h : (a, t, v) ∈ L) : tagsHeld key (L ++ [(a, t, v)]) = tagsHeld key L := by
  funext x y z
  by_cases e : x = a ∧ y = t ∧ z = v
  · obtain ⟨rfl, rfl, rfl⟩ := e; simp [tagsHeld, h]
  · simp [tagsHeld, e]
theorem take_snoc {L : List Tri} {k : Nat} (h : k < L.length) : L.take (k + 1) = L.take k ++ [L.getD k (0, 0, 0)] := by
  rw [List.take_succ_eq_append_getElem h, List.getD_eq_getElem?_getD, List.getElem?_eq_getElem h]; rfl
theorem i64_tag (key a t v : Int) : I64 (tagOf key a t v) := by have := tagOf_bd key a t v; exact ⟨by omega, by omega⟩
set_option maxHeartbeats 1000000 in
theorem tagsOf_calls (key : Int) (A : Option Addr) (L : List Tri) (cap : Nat) (w : World) (hn : L.length < maxLen) (hA : Tris w w.heap.size A L) (hI : TriI L) :
    Calls Tryz.prog 235 (pA key A L.length cap) w fun e w' => e = .returned (.map (some w.heap.size)) ∧ TMap w' w.heap.size L.length (tagsHeld key L) ∧ Below w.heap.size w w' := by
  have hm := hn
  unfold maxLen at hm
  have hmm := @run_makeMap Tryz.prog
  have HA := Lib.hid hA
  have HI := Lib.hid hI
  have HN := Lib.hid hn
  clear hA hI hn
  go_enter Tryz.func235, Tryz.ntmps235
  go_wp2_with fail
  clear hmm
  go_loopw [13] (fun i wr => ∃ k : Nat, k ≤ L.length ∧ i = .int .i64 k ∧ Below w.heap.size w wr ∧ TMap wr w.heap.size k (tagsHeld key (L.take k))) (fun i _ => L.length - (intOf i).toNat)
  case atStart => exact ⟨0, Nat.zero_le _, rfl, (Below.refl _ _).alloc (Nat.le_refl _) _, by rw [List.take_zero, tagsHeld_nil]; exact TMap.made w⟩
  case round =>
    obtain ⟨k, hk, rfl, hbel, hmap⟩ := hrel
    have HB := Lib.hid hbel
    have HM := Lib.hid hmap
    have hAr := HA.out.below hbel (Nat.le_refl _)
    clear hbel hmap
    by_cases hlt : k < L.length
    · obtain ⟨b, off, rfl, hb, c0, c1, c2⟩ := hAr k hlt
      have hlt' : (k : Int) < L.length := by omega
      have hk0 : (0 : Int) ≤ k := by omega
      have HS := Lib.hid (take_snoc hlt)
      have HT := Lib.hid (HI.out k hlt)
      clear hAr
      generalize L.getD k (0, 0, 0) = T at c0 c1 c2 HS HT
      obtain ⟨a, t, v⟩ := T
      simp only at c0 c1 c2
      have I1 := HT.out.1
      have I2 := HT.out.2.1
      have I3 := HT.out.2.2
      simp only at I1 I2 I3
      have J1 := Lib.hid I1
      have J2 := Lib.hid I2
      have J3 := Lib.hid I3
      clear I1 I2 I3 HT
      have HC := Lib.hid (fun w => tagged_calls key a t v w)
      have HK := Lib.hid (i64_tag key a t v)
      by_cases hin : (a, t, v) ∈ L.take k
      · have hs : (tagsHeld key (L.take k) a t v).isSome = true := by simp [tagsHeld, hin]
        have HQ := Lib.hid hs
        have HE := Lib.hid (tagsHeld_there key (L.take k) a t v hin)
        clear hs hin
        go_wp2_with (at_lookup; refine tm_look_ok _ rfl _ _ rfl w.heap.size k (tagsHeld key (L.take k)) rfl (HM.out.alloc _) a t v rfl J1.out J2.out J3.out ?_; rw [HQ.out])
        go_roundw
        case rel => exact ⟨k + 1, by omega, by go_num, HB.out.alloc HB.out.size _, by rw [HS.out, HE.out]; exact (HM.out.alloc _).mono (by omega)⟩
        case measure => simp [intOf]; omega
      · have hs : (tagsHeld key (L.take k) a t v).isSome = false := by simp [tagsHeld, hin]
        have HQ := Lib.hid hs
        have HE := Lib.hid (tagsHeld_snoc key (L.take k) a t v)
        clear hs hin
        generalize tagOf key a t v = d at HC HK HE
        go_wp2_with (at_lookup; refine tm_look_ok _ rfl _ _ rfl w.heap.size k (tagsHeld key (L.take k)) rfl (HM.out.alloc _) a t v rfl J1.out J2.out J3.out ?_; rw [HQ.out])
        go_region_with (go_at_call 242; refine (HC.out _).mono ?_; rintro e wx ⟨rfl, bx⟩; go_loud (have hx : TMap wx w.heap.size k (tagsHeld key (L.take k)) := TMap.below (TMap.drew (HM.out.alloc _)) bx (Nat.lt_of_lt_of_le HM.out.lt (by simp [World.drew]))); obtain ⟨w2, hrun, hm2, hg2⟩ := hx.put (by unfold maxLen; omega) J1.out J2.out J3.out HK.out; have hcx := (CellsAt.new wr 137 #[.int .i64 a, .int .i64 t, .int .i64 v]).drew.below bx (by simp [World.drew]); have d0 : wx.cell? ⟨wr.heap.size, 0, none⟩ = some (.int .i64 a) := hcx.cell 0; have d1 : wx.cell? ⟨wr.heap.size, 1, none⟩ = some (.int .i64 t) := hcx.cell 1; have d2 : wx.cell? ⟨wr.heap.size, 2, none⟩ = some (.int .i64 v) := hcx.cell 2; clear hcx; have BX := Lib.hid bx; have M2 := Lib.hid hm2; have G2 := Lib.hid hg2; clear bx hx hm2 hg2)
        all_goals
          go_wp2_with fail
          go_roundw
          case rel =>
            refine ⟨k + 1, by omega, by go_num, ?_, by rw [HS.out, HE.out]; exact M2.out⟩
            exact bgb ((HB.out.alloc HB.out.size _).drew.trans (BX.out.mono (show w.heap.size ≤ _ from Nat.le_trans HB.out.size (by simp [World.drew])))) G2.out (Nat.le_trans HB.out.size (Nat.le_trans (by simp [World.drew]) BX.out.size)) (Nat.le_refl _)
          case measure => simp [intOf]; omega
    · have hk' : k = L.length := by omega
      clear hAr
      have HQ := Lib.hid (show L.take k = L by rw [hk', List.take_length])
      have HK := Lib.hid hk'
      clear hk'
      go_wp2_with fail
      go_ret
      exact ⟨rfl, by have := HM.out; rw [HQ.out] at this; exact this.mono hk, HB.out⟩
def OneTag (key a t v : Int) (u : World) (e : Ending) (w' : World) : Prop :=
  ∃ m, e = .returned (.map (some m)) ∧ TMap w' m 1 (tagsHeld key [(a, t, v)]) ∧ Below u.heap.size u w'
theorem tagsOf_one (key a t v : Int) (g : Nat) (u : World) (hb : CellsAt u g 137 #[.int .i64 a, .int .i64 t, .int .i64 v]) (ha : I64 a) (ht : I64 t) (hv : I64 v) :
    Calls Tryz.prog 235 (pA key (some ⟨g, 0, none⟩) 1 1) u (OneTag key a t v u) := by
  refine (tagsOf_calls key (some ⟨g, 0, none⟩) [(a, t, v)] 1 u (by simp [maxLen])
    (fun i hi => by
      obtain rfl : i = 0 := by simp at hi; omega
      exact ⟨_, 0, rfl, hb.lt, hb.cell 0, hb.cell 1, hb.cell 2⟩)
    (fun i hi => by
      obtain rfl : i = 0 := by simp at hi; omega
      exact ⟨ha, ht, hv⟩)).mono ?_
  rintro e w' ⟨rfl, hm, h⟩
  exact ⟨_, rfl, hm, h⟩
def OneTagB (key a t v : Int) (w : World) (e : Ending) (w' : World) : Prop :=
  ∃ m, e = .returned (.map (some m)) ∧ (Instr.lookup 257 (.map (some m)) (.agg #[.int .i64 a, .int .i64 t, .int .i64 v]) false).run Tryz.prog w' = .ok (.int .i64 (tagOf key a t v)) w' ∧
    w'.cell? ⟨w.heap.size, 0, none⟩ = some (.int .i64 a) ∧ w'.cell? ⟨w.heap.size, 1, none⟩ = some (.int .i64 t) ∧ w'.cell? ⟨w.heap.size, 2, none⟩ = some (.int .i64 v) ∧ Below w.heap.size w w'
theorem tagsOf_boxed (key a t v : Int) (w : World) (ha : I64 a) (ht : I64 t) (hv : I64 v) :
    Calls Tryz.prog 235 (pA key (some ⟨w.heap.size + 1, 0, none⟩) 1 1)
      ((w.alloc (.cells #[.int .i64 a, .int .i64 t, .int .i64 v] 137)).alloc (.cells #[.int .i64 a, .int .i64 t, .int .i64 v] 137)).drew (OneTagB key a t v w) := by
  have h0 := CellsAt.new w 137 #[.int .i64 a, .int .i64 t, .int .i64 v]
  have h1 := CellsAt.new (w.alloc (.cells #[.int .i64 a, .int .i64 t, .int .i64 v] 137)) 137 #[.int .i64 a, .int .i64 t, .int .i64 v]
  rw [show (w.alloc (.cells #[.int .i64 a, .int .i64 t, .int .i64 v] 137)).heap.size = w.heap.size + 1 by simp] at h1
  refine (tagsOf_one key a t v _ _ h1.drew ha ht hv).mono ?_
  rintro e w' ⟨m, rfl, hm, hb⟩
  have hr := hm.look ha ht hv
  rw [show (tagsHeld key [(a, t, v)] a t v).getD 0 = tagOf key a t v by simp [tagsHeld]] at hr
  have h2 := (h0.below ((Below.refl (w.heap.size + 1) _).alloc (by simp) _) (by omega)).drew.below hb (by simp [World.drew]; omega)
  exact ⟨m, rfl, hr, h2.cell 0, h2.cell 1, h2.cell 2, ((((Below.refl w.heap.size w).alloc (Nat.le_refl _) _).alloc (by simp) _).drew).trans (hb.mono (by simp [World.drew]; omega))⟩
set_option maxHeartbeats 1000000 in
theorem tag_calls (key a t v : Int) (w : World) (ha : I64 a) (ht : I64 t) (hv : I64 v) :
    Calls Tryz.prog 225 #[.int .i64 key, .agg #[.int .i64 a, .int .i64 t, .int .i64 v]] w fun e w' => e = .returned (.int .i64 (tagOf key a t v)) ∧ Below w.heap.size w w' := by
  have HC := Lib.hid (tagsOf_boxed key a t v w ha ht hv)
  unfold OneTagB at HC
  generalize tagOf key a t v = d at HC
  clear ha ht hv
  go_enter Tryz.func225, Tryz.ntmps225
  go_wp2_with fail
  go_region_with (go_at_call 235; refine HC.out.mono ?_; rintro e wx ⟨m, rfl, hrun, d0, d1, d2, bx⟩; have BX := Lib.hid bx; clear bx)
  all_goals
    go_wp2_with fail
    go_ret
    exact ⟨rfl, BX.out⟩
open Go.ChangeShapes Go.WideShapes Go.ChangeAt Go.RowKit
abbrev Ce := Int × Int
open Go.RowKit
theorem wp_region_class {P : Program} {C : World → Prop} {id : Nat} {Q : Exit → Act → World → Prop} {a : Act} {w : World} {l : List Oper} (hm : P.follows .mixedOrders = true) (hB : Region.lexB .any l.toArray = true) (hC : C w.drew)
    (h : wpQuiet P l.toArray C (fun a' => ∀ w', C w' → Q .normal a' w') l a) : (Code.region id l.toArray true).wp P Q a w :=
  wp_region_quiet (C := C) hm hB hC (by simpa using h)
theorem class_same {P : Program} {C : World → Prop} {f : FuncId} {args : Array Value} {u : World} {v : Value} (hu : C u) (h : Calls P f args u fun e w' => e = .returned v ∧ u = w') : Calls P f args u fun e w' => e = .returned v ∧ C w' :=
  h.mono fun e w' ⟨he, hw⟩ => ⟨he, hw ▸ hu⟩
section
variable {P : Program} {C : (Nat → Bool) → World → Prop} {l : List Oper} {A : Act}
theorem wpAnyQ_end {C' : World → Prop} {ops : Array Oper} {md : Region.Mode} (x : Operand) (fuel : Nat) : ∀ (up : Array Bool) (a : Act),
    (∀ j oj, ops[j]? = some oj → up.getD j true = false → ∀ d, oj.dst = some d → x ≠ .tmp d) → wpAnyQ P md ops C' (fun a' => a' = A) fuel up a → a.eval x = A.eval x := by
  induction fuel with
  | zero => intro up a _ h; rw [h.2]
  | succ f ih =>
    intro up a hx h
    by_cases h0 : Region.ready md ops up = []
    · rw [h.1 h0]
    · obtain ⟨i, hi⟩ := List.exists_mem_of_ne_nil _ h0
      have hq := h.2 i hi
      obtain ⟨hun, oi, hoi, _⟩ := mem_ready.1 hi
      have hx' : ∀ j oj, ops[j]? = some oj → (up.setIfInBounds i true).getD j true = false → ∀ d, oj.dst = some d → x ≠ .tmp d := by
        intro j oj hj hu
        refine hx j oj hj ?_
        by_cases hij : i = j
        · subst hij; exact hun
        · rwa [getD_set_ne true hij] at hu
      obtain ⟨v, _, hk⟩ := yieldsIn_of_qOp hoi hq
      rw [← ih _ _ hx' hk]
      exact (Act.eval_put fun d hd => hx i oi hoi hun d hd).symm
theorem getD_same {up : Array Bool} {i : Nat} (h : i < up.size) (b c : Bool) : up.getD i b = up.getD i c := by simp [h]
theorem eval_put_self (a : Act) (d : Nat) (u v : Value) (h : (a.put (some d) u).eval (.tmp d) = (a.put (some d) v).eval (.tmp d)) : a.put (some d) u = a.put (some d) v := by
  unfold Act.put Act.eval at *
  simp only [Array.getD_eq_getD_getElem?] at h
  by_cases hd : d < a.tmps.size
  · simp [hd] at h; rw [h]
  · simp only [Act.mk.injEq, and_true]
    rw [Array.setIfInBounds_eq_of_size_le (by omega), Array.setIfInBounds_eq_of_size_le (by omega)]
end
def hushL (γ : Nat → Value) : Nat → List Bool → List Oper → List Oper
  | _, [], l => l
  | _, _ :: _, [] => []
  | k, b :: fl, o :: l => (bif b then { o with op := .assign (.const (γ k)) } else o) :: hushL γ (k + 1) fl l
def plainOp : Op → Bool
  | .move _ | .assign _ | .pick _ _ _ | .build _ _ | .load _ _ | .binOp _ _ _ _ _ | .unOp _ _ _ | .convert _ _ _ | .makeInterface _ _ | .fieldAddr _ _ _ | .field _ _ _ | .indexAddr _ _ _ | .index _ _ _ | .extract _ _ | .makeFunc _ _ _ | .lookup _ _ _ _ | .slice _ _ _ _ _ | .store _ _ _ => true
  | _ => false
def flagAt (fl : List Bool) (i : Nat) : Bool := fl.getD i false
def freeB (md : Region.Mode) (fl : List Bool) (l : List Oper) : Bool :=
  (List.range l.length).all fun i => match l[i]? with
    | none => true
    | some o => (match o.op with | .select _ _ => false | _ => true) && o.after.all (fun e => !Region.binds md e || decide (e.on < i)) &&
      (List.range l.length).all (fun j => j == i || match l[j]? with | some oj => o.dst.isNone || o.dst != oj.dst | none => true) &&
      (bif flagAt fl i then o.guard.isNone && o.op.operands.toList.all fun x => match x with
        | .tmp t => (List.range l.length).all fun j => match l[j]? with | some oj => oj.dst != some t || o.after.any (fun e => Region.binds md e && e.on == j) | none => true
        | _ => true
      else plainOp o.op)
def stepsTo (P : Program) (r : Result Next) (K : Value → World → Prop) : Prop :=
  match r with
  | .ok (.value u) w' => K u w'
  | .ok .skip w' => K undef w'
  | .ok (.enter f args) w' => Calls P f args w' fun e w'' => ∃ v, e = .returned v ∧ K v w''
  | _ => False
theorem stepsTo_mono {P : Program} {r : Result Next} {K K' : Value → World → Prop} (h : ∀ v w, K v w → K' v w) (hh : stepsTo P r K) : stepsTo P r K' := by
  unfold stepsTo at *
  split
  · exact h _ _ hh
  · exact h _ _ hh
  · exact Calls.mono hh fun e w' ⟨v, he, hk⟩ => ⟨v, he, h _ _ hk⟩
  · rename_i h1 h2 h3
    split at hh
    · exact absurd rfl (h1 _ _)
    · exact absurd rfl (h2 _)
    · exact absurd rfl (h3 _ _ _)
    · exact hh
def setD (D : Nat → Bool) (i : Nat) : Nat → Bool := fun k => k == i || D k
def setG (γ : Nat → Value) (i : Nat) (v : Value) : Nat → Value := fun k => if k = i then v else γ k
def depsUp (md : Region.Mode) (fl : List Bool) (o : Oper) (D : Nat → Bool) : Prop := ∀ e ∈ o.after.toList, Region.binds md e = true → flagAt fl e.on = true → D e.on = true
def freeOk (P : Program) (C : (Nat → Bool) → (Nat → Value) → World → Prop) (Sh : Nat → Value → Prop) (fl0 : List Bool) (A : Act) (γ : Nat → Value) : Nat → List Bool → List Oper → Prop
  | _, [], _ => True
  | _, _ :: _, [] => True
  | k, false :: fl, _ :: l => freeOk P C Sh fl0 A γ (k + 1) fl l
  | k, true :: fl, o :: l => (∀ D w, D k = false → depsUp .any fl0 o D → C D γ w → stepsTo P ((execOp A.eval o).run P w) (fun v w' => Sh k v ∧ C (setD D k) (setG γ k v) w')) ∧ freeOk P C Sh fl0 A γ (k + 1) fl l
section
variable {P : Program} {C : (Nat → Bool) → (Nat → Value) → World → Prop} {Sh : Nat → Value → Prop} {fl fl0 : List Bool} {l : List Oper} {γ : Nat → Value} {A : Act}
def hushO (b : Bool) (v : Value) (o : Oper) : Oper := bif b then { o with op := .assign (.const v) } else o
theorem hushO_dst (b : Bool) (v : Value) (o : Oper) : (hushO b v o).dst = o.dst := by cases b <;> rfl
theorem hushO_after (b : Bool) (v : Value) (o : Oper) : (hushO b v o).after = o.after := by cases b <;> rfl
theorem hushL_get (γ : Nat → Value) : ∀ (k : Nat) (fl : List Bool) (l : List Oper) (i : Nat), (hushL γ k fl l)[i]? = (l[i]?).map (hushO (flagAt fl i) (γ (k + i)))
  | k, [], l, i => by
    rw [show hushL γ k [] l = l by cases l <;> rfl]
    have : flagAt [] i = false := rfl
    rw [this]
    cases l[i]? <;> rfl
  | k, b :: fl, [], i => by simp [hushL]
  | k, b :: fl, o :: l, i => by
    cases i with
    | zero => simp [hushL, flagAt, hushO]
    | succ i =>
      rw [hushL, List.getElem?_cons_succ, List.getElem?_cons_succ, hushL_get γ (k + 1) fl l i, show k + 1 + i = k + (i + 1) by omega]
      rfl
theorem hushL_length (γ : Nat → Value) : ∀ (k : Nat) (fl : List Bool) (l : List Oper), (hushL γ k fl l).length = l.length
  | k, [], l => by rw [show hushL γ k [] l = l by cases l <;> rfl]
  | k, b :: fl, [] => rfl
  | k, b :: fl, o :: l => by rw [hushL, List.length_cons, List.length_cons, hushL_length γ (k + 1) fl l]
theorem hushA_get (γ : Nat → Value) (fl : List Bool) (l : List Oper) (i : Nat) : (hushL γ 0 fl l).toArray[i]? = (l.toArray[i]?).map (hushO (flagAt fl i) (γ i)) := by
  have := hushL_get γ 0 fl l i
  rw [Nat.zero_add] at this
  simpa using this
theorem hushL_ready (md : Region.Mode) (up : Array Bool) : Region.ready md (hushL γ 0 fl l).toArray up = Region.ready md l.toArray up := by
  unfold Region.ready
  simp only [List.size_toArray, hushL_length]
  congr 1
  funext i
  rw [hushA_get]
  cases l.toArray[i]? with
  | none => rfl
  | some o => simp only [Option.map_some, Option.getD_some, hushO_after]
theorem hushL_yielded (ts : Array Value) : yielded (hushL γ 0 fl l).toArray ts = yielded l.toArray ts := by
  funext j
  unfold yielded
  rw [hushA_get]
  cases l.toArray[j]? with
  | none => rfl
  | some o => simp only [Option.map_some, Option.bind_some, hushO_dst]
theorem freeB_at {md : Region.Mode} (h : freeB md fl l = true) {i : Nat} {o : Oper} (hi : l[i]? = some o) :
    (∀ e ∈ o.after, Region.binds md e = true → e.on < i) ∧ (∀ j oj d, l[j]? = some oj → j ≠ i → o.dst = some d → oj.dst ≠ some d) ∧
    (flagAt fl i = false → plainOp o.op = true) ∧
    (flagAt fl i = true → o.guard = none ∧ ∀ t, .tmp t ∈ o.op.operands.toList → ∀ j oj, l[j]? = some oj → oj.dst = some t → ∃ e ∈ o.after, Region.binds md e = true ∧ e.on = j) ∧
    (∀ cs b, o.op ≠ .select cs b) := by
  unfold freeB at h
  rw [List.all_eq_true] at h
  have hlt : i < l.length := (List.getElem?_eq_some_iff.1 hi).1
  have h1 := h i (List.mem_range.2 hlt)
  simp only [hi, Bool.and_eq_true] at h1
  obtain ⟨⟨⟨hns, ha⟩, hd⟩, hs⟩ := h1
  refine ⟨fun e he hb => ?_, fun j oj d hj hne hod hoj => ?_, fun hf => ?_, fun hf => ?_, fun cs b he => by rw [he] at hns; cases hns⟩
  · have := Array.all_eq_true_iff_forall_mem.1 ha e he
    simpa [hb] using this
  · rw [List.all_eq_true] at hd
    have := hd j (List.mem_range.2 (List.getElem?_eq_some_iff.1 hj).1)
    simp [hj, hne, hod, hoj] at this
  · rw [hf] at hs; exact hs
  · rw [hf] at hs
    simp only [cond_true, Bool.and_eq_true] at hs
    refine ⟨by simpa using hs.1, fun t ht j oj hj hd2 => ?_⟩
    have h3 := List.all_eq_true.1 hs.2 _ ht
    simp only [List.all_eq_true] at h3
    have h4 := h3 j (List.mem_range.2 (List.getElem?_eq_some_iff.1 hj).1)
    simp only [hj, hd2, bne_self_eq_false, Bool.false_or] at h4
    obtain ⟨e, he, hb⟩ := Array.any_eq_true'.1 h4
    simp only [Bool.and_eq_true, beq_iff_eq] at hb
    exact ⟨e, he, hb.1, hb.2⟩
theorem all_up' {md : Region.Mode} (h : freeB md fl l = true) {up : Array Bool} (hs : up.size = l.length) (h0 : Region.ready md l.toArray up = []) : ∀ i, i < l.length → up.getD i true = true := by
  intro i
  induction i using Nat.strongRecOn with
  | _ i ih =>
    intro hi
    cases hu : up.getD i true with
    | true => rfl
    | false =>
      exfalso
      obtain ⟨o, ho⟩ : ∃ o, l[i]? = some o := ⟨_, List.getElem?_eq_getElem hi⟩
      have : i ∈ Region.ready md l.toArray up := by
        refine mem_ready.2 ⟨hu, o, by simpa using ho, fun e he hb => ?_⟩
        have hlt := (freeB_at h ho).1 e he hb
        rw [getD_same (by omega) false true]
        exact ih _ hlt (by omega)
      rw [h0] at this
      cases this
theorem seq_no_enter {s : Sem Value} {w w' : World} {f : FuncId} {args : Array Value} : ((do pure (Next.value (← s))) : Sem Next).run P w ≠ .ok (.enter f args) w' := by
  simp only [Sem.run_bind]
  cases s.run P w with
  | ok x w1 => simp [Result.andThen]
  | halt x w1 => simp [Result.andThen]
theorem seqU_no_enter {s : Sem Unit} {w w' : World} {f : FuncId} {args : Array Value} : ((do s; pure Next.skip) : Sem Next).run P w ≠ .ok (.enter f args) w' := by
  simp only [Sem.run_bind]
  cases s.run P w with
  | ok x w1 => simp [Result.andThen]
  | halt x w1 => simp [Result.andThen]
theorem plain_no_enter {ρ : Operand → Value} {o : Oper} {w w' : World} {f : FuncId} {args : Array Value} (h : plainOp o.op = true) : (execOp ρ o).run P w ≠ .ok (.enter f args) w' := by
  unfold execOp
  generalize o.op = op at *
  cases op
  all_goals first
    | (exfalso; simp only [plainOp] at h; cases h; done)
    | exact seq_no_enter
    | exact seqU_no_enter
    | (simp; done)
    | (rename_i c x y; simp only [Sem.run_bind]; cases (asBool (ρ c)).run P w <;> simp [Result.andThen])
theorem plain_same {C1 C2 : World → Prop} {o : Oper} {a : Act} {v1 v2 : Value} {w : World} (h : plainOp o.op = true) (h1 : o.quietAt P a C1 w v1) (h2 : o.quietAt P a C2 w v2) : v1 = v2 := by
  unfold Oper.quietAt at h1 h2
  have hne := fun w' f args => plain_no_enter (P := P) (ρ := a.eval) (o := o) (w := w) (w' := w') (f := f) (args := args) h
  generalize (execOp a.eval o).run P w = r at *
  cases r with
  | halt x w' => simp only [Oper.quietUpon] at h1
  | ok n w' =>
    cases n <;> simp only [Oper.quietUpon] at h1 h2
    case value u => exact h1.2.symm.trans h2.2
    case skip => exact h1.2.trans h2.2.symm
    case enter f args => exact absurd rfl (hne w' f args)
theorem YieldsIn.same {ops1 ops2 : Array Oper} {C1 C2 : World → Prop} {o : Oper} {a : Act} {v1 v2 : Value} {w : World} (hp : plainOp o.op = true) (hy : yielded ops1 a.tmps = yielded ops2 a.tmps) (w1 : C1 w) (w2 : C2 w)
    (h1 : YieldsIn P ops1 C1 o v1 a) (h2 : YieldsIn P ops2 C2 o v2 a) : v1 = v2 := by
  rcases h1 with ⟨g1, q1⟩ | ⟨g1, e1⟩ <;> rcases h2 with ⟨g2, q2⟩ | ⟨g2, e2⟩
  · exact plain_same hp (q1 w w1) (q2 w w2)
  · rw [hy, g2] at g1; cases g1
  · rw [hy, g2] at g1; cases g1
  · rw [e1, e2]
def OkG (Sh : Nat → Value → Prop) (fl : List Bool) (γ : Nat → Value) : Prop := ∀ i, flagAt fl i = true → Sh i (γ i)
theorem freeOk_at (k : Nat) : ∀ (fl : List Bool) (l : List Oper), freeOk P C Sh fl0 A γ k fl l → ∀ i o, l[i]? = some o → flagAt fl i = true →
    ∀ D w, D (k + i) = false → depsUp .any fl0 o D → C D γ w → stepsTo P ((execOp A.eval o).run P w) (fun v w' => Sh (k + i) v ∧ C (setD D (k + i)) (setG γ (k + i) v) w') := by
  intro fl
  induction fl generalizing k with
  | nil => intro l _ i o _ hf; cases hf
  | cons b fl ih =>
    intro l h i o hi hf
    cases l with
    | nil => cases hi
    | cons o' l =>
      cases i with
      | zero =>
        have : b = true := hf
        subst this
        simp only [List.getElem?_cons_zero, Option.some.injEq] at hi
        subst hi
        exact h.1
      | succ i =>
        have h' : freeOk P C Sh fl0 A γ (k + 1) fl l := by cases b; exact h; exact h.2
        rw [show k + (i + 1) = k + 1 + i by omega]
        exact ih (k + 1) l h' i o (by simpa using hi) hf
theorem free_any {Q : Exit → Act → World → Prop} (AA : (Nat → Value) → Act) (hB : freeB .any fl l = true)
    (hloc : ∀ D γ γ' w, (∀ i, D i = true → γ i = γ' i) → C D γ w → C D γ' w)
    (hst : ∀ γ, OkG Sh fl γ → freeOk P C Sh fl (AA γ) γ 0 fl l)
    (hQ : ∀ γ, OkG Sh fl γ → ∀ D w', (∀ i, i < l.length → flagAt fl i = true → D i = true) → C D γ w' → Q .normal (AA γ) w') (fuel : Nat) :
    ∀ (up : Array Bool) (a : Act) (D : Nat → Bool) (γ : Nat → Value) (w : World), up.size = l.length → OkG Sh fl γ →
      (∀ γ', OkG Sh fl γ' → (∀ i, D i = true → γ i = γ' i) → ∀ D', wpAnyQ P .any (hushL γ' 0 fl l).toArray (C D' γ') (fun a' => a' = AA γ') fuel up a) →
      (∀ i, D i = (flagAt fl i && up.getD i false)) → C D γ w → wpAny P .any l.toArray Q fuel up a w := by
  have fin : ∀ (up : Array Bool) (D : Nat → Bool) (γ : Nat → Value) (w : World), up.size = l.length → OkG Sh fl γ → (∀ i, D i = (flagAt fl i && up.getD i false)) → C D γ w →
      Region.ready .any l.toArray up = [] → Q .normal (AA γ) w := by
    intro up D γ w hs hγ hD hC h0
    refine hQ γ hγ D w (fun i hi hf => ?_) hC
    rw [hD i, hf, getD_same (by omega) false true, all_up' hB hs h0 i hi]
    rfl
  induction fuel with
  | zero =>
    intro up a D γ w hs hγ H hD hC
    have h := H γ hγ (fun _ _ => rfl) D
    have hr : Region.ready .any l.toArray up = [] := by rw [← hushL_ready (γ := γ) (fl := fl)]; exact h.1
    refine ⟨hr, ?_⟩
    rw [h.2]
    exact fin up D γ w hs hγ hD hC hr
  | succ f ih =>
    intro up a D γ w hs hγ H hD hC
    refine ⟨fun h0 => ?_, fun i hi => ?_⟩
    · rw [(H γ hγ (fun _ _ => rfl) D).1 (by rw [hushL_ready]; exact h0)]
      exact fin up D γ w hs hγ hD hC h0
    · obtain ⟨hun, o, ho, hwait⟩ := mem_ready.1 hi
      have hol : l[i]? = some o := by simpa using ho
      have hil : i < l.length := (List.getElem?_eq_some_iff.1 hol).1
      have hs' : (up.setIfInBounds i true).size = l.length := by simpa using hs
      have hDi : D i = false := by
        rw [hD i, getD_same (by omega) false true, hun]; simp
      have hget : ∀ γ' : Nat → Value, (hushL γ' 0 fl l).toArray[i]? = some (hushO (flagAt fl i) (γ' i) o) := fun γ' => by rw [hushA_get, ho]; rfl
      -- each takes the same step
      have hstep : ∀ γ', OkG Sh fl γ' → (∀ i, D i = true → γ i = γ' i) → ∀ D', ∃ v, YieldsIn P (hushL γ' 0 fl l).toArray (C D' γ') (hushO (flagAt fl i) (γ' i) o) v a ∧
          wpAnyQ P .any (hushL γ' 0 fl l).toArray (C D' γ') (fun a' => a' = AA γ') f (up.setIfInBounds i true) (a.put o.dst v) := by
        intro γ' h1 h2 D'
        obtain ⟨v, hy, hk⟩ := yieldsIn_of_qOp (hget γ') ((H γ' h1 h2 D').2 i (by rw [hushL_ready]; exact hi))
        rw [hushO_dst] at hk
        exact ⟨v, hy, hk⟩
      have hendx : ∀ γ' d, o.dst = some d → ∀ j oj, (hushL γ' 0 fl l).toArray[j]? = some oj → (up.setIfInBounds i true).getD j true = false → ∀ d', oj.dst = some d' → Operand.tmp d ≠ .tmp d' := by
        intro γ' d hd j oj hj hu d' hd' he
        injection he with he
        subst he
        rw [hushA_get] at hj
        obtain ⟨oj', hj', rfl⟩ := Option.map_eq_some_iff.1 hj
        rw [hushO_dst] at hd'
        have hji : j ≠ i := by
          rintro rfl
          have : (up.setIfInBounds j true).getD j true = true := by simp [show j < up.size by omega]
          rw [this] at hu; cases hu
        exact (freeB_at hB hol).2.1 j oj' d (by simpa using hj') hji hd hd'
      cases hf : flagAt fl i with
      | false =>
        have hp : plainOp o.op = true := (freeB_at hB hol).2.2.1 hf
        have hsame : ∀ v, hushO (flagAt fl i) v o = o := fun v => by rw [hf]; rfl
        obtain ⟨v, hy, hk⟩ := hstep γ hγ (fun _ _ => rfl) D
        rw [hsame] at hy
        have hall : ∀ γ', OkG Sh fl γ' → (∀ i, D i = true → γ i = γ' i) → ∀ D', wpAnyQ P .any (hushL γ' 0 fl l).toArray (C D' γ') (fun a' => a' = AA γ') f (up.setIfInBounds i true) (a.put o.dst v) := by
          intro γ' h1 h2 D'
          obtain ⟨v1, hy1, hk1⟩ := hstep γ' h1 h2 D
          obtain ⟨v2, _, hk2⟩ := hstep γ' h1 h2 D'
          rw [hsame] at hy1
          have e1 : v = v1 := YieldsIn.same hp ((hushL_yielded _).trans (hushL_yielded _).symm) hC (hloc D γ γ' w h2 hC) hy hy1
          subst e1
          suffices e : a.put o.dst v = a.put o.dst v2 by rw [e]; exact hk2
          cases hd : o.dst with
          | none => rfl
          | some d =>
            rw [hd] at hk1 hk2
            exact eval_put_self a d v v2 ((wpAnyQ_end _ f _ _ (hendx γ' d hd) hk1).trans (wpAnyQ_end _ f _ _ (hendx γ' d hd) hk2).symm)
        have hq : qOp P l.toArray (C D γ) i (fun a' => a' = a.put o.dst v) a := by
          refine YieldsIn.qOp ho ?_ rfl
          rcases hy with ⟨hw, hv⟩ | ⟨hw, hv⟩
          · left; rw [hushL_yielded] at hw; exact ⟨hw, hv⟩
          · right; rw [hushL_yielded] at hw; exact ⟨hw, hv⟩
        refine wpOp_of_qOp hC (fun a' w' hw' ha' => ?_) hq
        subst ha'
        refine ih _ _ D γ w' hs' hγ hall (fun j => ?_) hw'
        rw [hD j]
        by_cases hij : i = j
        · subst hij; rw [hf]; simp
        · rw [getD_set_ne false hij]
      | true =>
        obtain ⟨hg, hrd⟩ := (freeB_at hB hol).2.2.2.1 hf
        have hev : ∀ z ∈ o.op.operands.toList, a.eval z = (AA γ).eval z := by
          intro z hz
          refine wpAnyQ_end z (f + 1) up a (fun j oj hj hu d' hd' he => ?_) (H γ hγ (fun _ _ => rfl) D)
          subst he
          rw [hushA_get] at hj
          obtain ⟨oj', hj', rfl⟩ := Option.map_eq_some_iff.1 hj
          rw [hushO_dst] at hd'
          obtain ⟨e, he, hb, hon⟩ := hrd d' hz j oj' (by simpa using hj') hd'
          have h3 := hwait e he hb
          rw [hon] at h3
          have hjlt : j < l.length := by have := (Array.getElem?_eq_some_iff.1 hj').1; simpa using this
          rw [getD_same (by omega) false true, hu] at h3
          cases h3
        have hsel : ∀ cs b, o.op ≠ .select cs b := (freeB_at hB hol).2.2.2.2
        have hex : execOp a.eval o = execOp (AA γ).eval o := execOp_congr o hsel (fun x hx => hev x (by simpa using hx))
        have hstp := freeOk_at 0 fl l (hst γ hγ) i o hol hf D w (by rw [Nat.zero_add]; exact hDi) (fun e2 he2 hb2 hf2 => by
            rw [hD, hf2]; exact hwait e2 (by simpa using he2) hb2) hC
        rw [Nat.zero_add, ← hex] at hstp
        have hwant : Region.wanted o (yielded l.toArray a.tmps) = true := by unfold Region.wanted; rw [hg]
        unfold wpOp
        simp only [ho, hwant, if_true]
        left
        have hgo : ∀ v w', Sh i v ∧ C (setD D i) (setG γ i v) w' → wpAny P .any l.toArray Q f (up.setIfInBounds i true) (a.put o.dst v) w' := by
          intro v w' ⟨hv, hC'⟩
          refine ih _ _ (setD D i) (setG γ i v) w' hs' (fun j hj => ?_) (fun γ' h1 h2 D' => ?_) (fun j => ?_) hC'
          · unfold setG
            by_cases hji : j = i
            · subst hji; rw [if_pos rfl]; exact hv
            · rw [if_neg hji]; exact hγ j hj
          · have h2' : ∀ j, D j = true → γ j = γ' j := by
              intro j hj
              have hji : j ≠ i := by rintro rfl; rw [hDi] at hj; cases hj
              have := h2 j (by unfold setD; rw [hj]; simp)
              unfold setG at this
              rwa [if_neg hji] at this
            have hvi : v = γ' i := by
              have := h2 i (by simp [setD])
              unfold setG at this
              rwa [if_pos rfl] at this
            obtain ⟨u1, hy1, hk1⟩ := hstep γ' h1 h2' D
            obtain ⟨u2, _, hk2⟩ := hstep γ' h1 h2' D'
            rw [hf] at hy1
            have hu : γ' i = u1 := by
              rcases hy1 with ⟨_, q⟩ | ⟨g, _⟩
              · have q' := q w (hloc D γ γ' w h2' hC)
                unfold Oper.quietAt at q'
                have hrun : (execOp a.eval (hushO true (γ' i) o)).run P w = .ok (.value (γ' i)) w := by unfold execOp hushO; rfl
                rw [hrun] at q'
                exact q'.2
              · exfalso
                have hgn : (hushO true (γ' i) o).guard = none := hg
                unfold Region.wanted at g; rw [hgn] at g; cases g
            rw [hvi, hu]
            suffices e : a.put o.dst u1 = a.put o.dst u2 by rw [e]; exact hk2
            cases hd : o.dst with
            | none => rfl
            | some d =>
              rw [hd] at hk1 hk2
              exact eval_put_self a d u1 u2 ((wpAnyQ_end _ f _ _ (hendx γ' d hd) hk1).trans (wpAnyQ_end _ f _ _ (hendx γ' d hd) hk2).symm)
          · unfold setD
            by_cases hij : i = j
            · subst hij; simp [hf, show i < up.size by omega]
            · rw [getD_set_ne false hij, hD j]
              simp [Ne.symm hij]
        have hfin := stepsTo_mono hgo hstp
        unfold Oper.wp
        generalize (execOp a.eval o).run P w = r at *
        cases r with
        | halt x w' => simp only [stepsTo] at hfin
        | ok n w' =>
          cases n <;> simp only [stepsTo] at hfin
          case value u => exact hfin
          case skip => exact hfin
          case enter g args => exact hfin.mono fun e w'' ⟨v, he, hk⟩ => by subst he; exact hk
theorem wp_region_free {id : Nat} {Q : Exit → Act → World → Prop} {a : Act} {w : World} {l : List Oper} (fl : List Bool) (Sh : Nat → Value → Prop) (C : (Nat → Bool) → (Nat → Value) → World → Prop)
    (hm : P.follows .mixedOrders = true) (hS : freeB .any fl l = true) (hB : ∀ γ, Region.lexB .any (hushL γ 0 fl l).toArray = true)
    (hloc : ∀ D γ γ' w, (∀ i, D i = true → γ i = γ' i) → C D γ w → C D γ' w) (hinh : ∀ i, ∃ v, Sh i v) (hC : ∀ γ, C (fun _ => false) γ w.drew)
    (H : ∀ γ, OkG Sh fl γ → ∃ A : Act, (∀ D, wpQuiet P (hushL γ 0 fl l).toArray (C D γ) (fun a' => a' = A) (hushL γ 0 fl l) a) ∧ freeOk P C Sh fl A γ 0 fl l ∧
      (∀ D w', (∀ i, i < l.length → flagAt fl i = true → D i = true) → C D γ w' → Q .normal A w')) : (Code.region id l.toArray true).wp P Q a w := by
  classical
  refine wp_region_any hm ?_
  obtain ⟨γ0, h0⟩ : ∃ γ0 : Nat → Value, OkG Sh fl γ0 := ⟨fun i => Classical.choose (hinh i), fun i _ => Classical.choose_spec (hinh i)⟩
  let AA : (Nat → Value) → Act := fun γ => if h : OkG Sh fl γ then Classical.choose (H γ h) else a
  have hAA : ∀ γ (h : OkG Sh fl γ), AA γ = Classical.choose (H γ h) := fun γ h => dif_pos h
  have hA : ∀ γ (h : OkG Sh fl γ), (∀ D, wpQuiet P (hushL γ 0 fl l).toArray (C D γ) (fun a' => a' = AA γ) (hushL γ 0 fl l) a) ∧ freeOk P C Sh fl (AA γ) γ 0 fl l ∧
      (∀ D w', (∀ i, i < l.length → flagAt fl i = true → D i = true) → C D γ w' → Q .normal (AA γ) w') := fun γ h => by rw [hAA γ h]; exact Classical.choose_spec (H γ h)
  refine free_any AA hS hloc (fun γ h => (hA γ h).2.1) (fun γ h => (hA γ h).2.2) _ _ _ (fun _ => false) γ0 _ (by simp) h0 (fun γ' h1 _ D' => ?_) (fun i => ?_) (hC γ0)
  · have hlex := hB γ'
    simp only [Region.lexB, Bool.and_eq_true] at hlex
    have := wpAnyQ_lex (C := C D' γ') (md := .any) hlex.1 (hushL γ' 0 fl l) 0 (Array.replicate l.toArray.size false) a (by simp) (by simpa [hushL_length] using hlex.2) ((hA γ' h1).1 D')
    simpa [hushL_length] using this
  · have : (Array.replicate l.toArray.size false).getD i false = false := by
      rcases Nat.lt_or_ge i l.length with h' | h'
      · simp [h']
      · simp [h']
    rw [this]; simp
end
end Go.Proofs.YtgaecedhkbneaaaGreatDoor.Mx

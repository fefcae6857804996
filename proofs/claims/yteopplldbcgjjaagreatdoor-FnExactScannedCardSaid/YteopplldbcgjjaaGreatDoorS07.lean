import Derived.Test.YteopplldbcgjjaaGreatDoorS03
import Derived.Maps.OwnSet
import Derived.DeepKeys4
import Derived.MapViews
import Derived.Deep.RegionWith
import Derived.Test.YteopplldbcgjjaaGreatDoorS06
import Derived.Test.YteopplldbcgjjaaGreatDoorS05
import Derived.Deep.CutRange
import Derived.Deep.AppendLies
import Derived.Test.YteopplldbcgjjaaGreatDoorS04
import Derived.Deep.RegionHeld3
import Derived.Test.YteopplldbcgjjaaGreatDoorS01
namespace Go.Proofs.YteopplldbcgjjaaGreatDoor.Mx
open Go.ChangeShapes Go.WideShapes Go.ChangeAt Go.RowKit Go.Maps
set_option linter.unusedVariables false
theorem laid : laidOutB Tryz.prog = true := by kernel_rfl
theorem triRow : (85 : TypeId) < Tryz.prog.types.size := of_decide_eq_true (by kernel_rfl)
theorem triKeyAt : Tryz.prog.keyTypeAt 3 85 = true := by kernel_rfl
set_option maxRecDepth 20000 in
theorem triWide : (match Tryz.prog.underlying 85 with | some (.array _ _) | some (.struct _) => true | _ => false) = true := by kernel_rfl
set_option maxRecDepth 20000 in
theorem triLaw : Keyed Tryz.prog 85 := Keyed.of_law (deep_law_laid laid (m := 3) (by omega) triRow triKeyAt triWide)
theorem triType : Tryz.prog.keyType 85 = true := by kernel_rfl
theorem triCells : Tryz.prog.cellsOf 85 = 3 := by kernel_rfl
theorem i64Cells : Tryz.prog.cellsOf 2 = 1 := by kernel_rfl
theorem i64Zero (w : World) : (zeroValue 2).run Tryz.prog w = .ok (.int .i64 0) w := by kernel_rfl
def tkey (a t v : Int) : Lit := .string (keyBytes [.int .i64 a, .int .i64 t, .int .i64 v])
theorem tkey_of {a t v : Int} (ha : I64 a) (ht : I64 t) (hv : I64 v) : keyOf Tryz.prog 85 (.agg #[.int .i64 a, .int .i64 t, .int .i64 v]) = some (tkey a t v) := by
  obtain ⟨m, hm⟩ : ∃ m, m + 1 = Tryz.prog.types.size := ⟨Tryz.prog.types.size - 1, Nat.sub_add_cancel (Nat.lt_of_le_of_lt (Nat.zero_le _) triRow)⟩
  have w1 : (Lit.int .i64 a).wf = true := WalkArith.wf_i64 ⟨ha.1, ha.2⟩
  have w2 : (Lit.int .i64 t).wf = true := WalkArith.wf_i64 ⟨ht.1, ht.2⟩
  have w3 : (Lit.int .i64 v).wf = true := WalkArith.wf_i64 ⟨hv.1, hv.2⟩
  unfold keyOf
  simp only [Tryz.underlying85]
  rw [triType, ← hm]
  clear hm
  simp [triCells, i64Cells, Value.formed, Tryz.underlying85, Value.cells, Program.keyLits, Tryz.underlying2, w1, w2, w3, tkey]
theorem tkey_inj {a t v a' t' v' : Int} (ha : I64 a) (ht : I64 t) (hv : I64 v) (ha' : I64 a') (ht' : I64 t') (hv' : I64 v') (h : tkey a t v = tkey a' t' v') : a = a' ∧ t = t' ∧ v = v' := by
  have := triLaw.inj (tkey_of ha ht hv) (h ▸ tkey_of ha' ht' hv')
  simpa using this
theorem tkey_lit (a t v : Int) : WideAt.IsKeyLit (tkey a t v) := trivial
abbrev Held := Int → Int → Int → Option Int
def Held.none : Held := fun _ _ _ => Option.none
def Held.put (f : Held) (a t v d : Int) : Held := fun x y z => if x = a ∧ y = t ∧ z = v then some d else f x y z
def TMap (w : World) (b n : Nat) (f : Held) : Prop :=
  ∃ D : DataW Unit, w.ownsMap Tryz.prog 85 (plainElem Tryz.prog 2) b n D ∧
    ∀ a t v, I64 a → I64 t → I64 v → Maps.has D (tkey a t v) = (f a t v).isSome ∧ D.atKey (tkey a t v) (.lit (.int .i64 0)) = .lit (.int .i64 ((f a t v).getD 0))
theorem TMap.lt {w : World} {b n : Nat} {f : Held} (h : TMap w b n f) : b < w.heap.size := let ⟨_, h, _⟩ := h; h.lt
theorem TMap.mono {w : World} {b n n' : Nat} {f : Held} (h : TMap w b n f) (hn : n ≤ n') : TMap w b n' f := let ⟨D, h, k⟩ := h; ⟨D, h.mono hn, k⟩
theorem TMap.below {w w' : World} {b n B : Nat} {f : Held} (h : TMap w b n f) (hb : Below B w w') (hB : b < B) : TMap w' b n f := by
  obtain ⟨D, ⟨es, clock, hh, r⟩, k⟩ := h
  exact ⟨D, ⟨es, clock, (hb.block b hB).trans hh, r⟩, k⟩
theorem TMap.alloc {w : World} {b n : Nat} {f : Held} (h : TMap w b n f) (o : Obj) : TMap (w.alloc o) b n f := let ⟨D, h, k⟩ := h; ⟨D, h.alloc o, k⟩
theorem TMap.drew {w : World} {b n : Nat} {f : Held} (h : TMap w b n f) : TMap w.drew b n f := h
theorem TMap.made (w : World) : TMap (w.alloc (.map #[] 0)) w.heap.size 0 Held.none :=
  ⟨.map [], World.ownsMap_made _ _ _ _, fun a t v _ _ _ => ⟨rfl, rfl⟩⟩
theorem TMap.put {w : World} {b n : Nat} {f : Held} (hown : TMap w b n f) (hn : n < maxLen) {i j k d : Int} (hi : I64 i) (hj : I64 j) (hk : I64 k) (hd : I64 d) :
    ∃ w', (Instr.mapUpdate 193 (.map (some b)) (.agg #[.int .i64 i, .int .i64 j, .int .i64 k]) (.int .i64 d)).run Tryz.prog w = .ok () w' ∧ TMap w' b (n + 1) (f.put i j k d) ∧ w.grownBy w' (some b) := by
  obtain ⟨D, h, hD⟩ := hown
  obtain ⟨w', hr, h', hg'⟩ := h.update triLaw Tryz.underlying193 hn (tkey_of hi hj hk) (plainElem_int (H := Unit) Tryz.underlying2 (WalkArith.wf_i64 ⟨hd.1, hd.2⟩))
  refine ⟨w', hr, ⟨_, h', fun a t v ha ht hv => ?_⟩, hg'⟩
  by_cases e : a = i ∧ t = j ∧ v = k
  · obtain ⟨rfl, rfl, rfl⟩ := e
    rw [has_put_same h.isMap (tkey_lit _ _ _), atKey_put_same h.isMap (tkey_lit _ _ _)]
    simp [Held.put]
  · have hne : tkey a t v ≠ tkey i j k := fun e' => e (tkey_inj ha ht hv hi hj hk e')
    rw [has_put_other hne, atKey_put_other hne]
    simp only [Held.put, if_neg e]
    exact hD a t v ha ht hv
theorem TMap.look {w : World} {b n : Nat} {f : Held} (hown : TMap w b n f) {i j k : Int} (hi : I64 i) (hj : I64 j) (hk : I64 k) :
    (Instr.lookup 193 (.map (some b)) (.agg #[.int .i64 i, .int .i64 j, .int .i64 k]) false).run Tryz.prog w = .ok (.int .i64 ((f i j k).getD 0)) w := by
  obtain ⟨D, h, hD⟩ := hown
  obtain ⟨c, hr, hc, _⟩ := h.lookup_int triLaw Tryz.underlying193 Tryz.underlying2 (i64Zero _) (tkey_of hi hj hk)
  rw [(hD i j k hi hj hk).2] at hc
  simp only [DataW.lit.injEq, Lit.int.injEq, true_and] at hc
  rw [hc]; exact hr
section
variable (w : World) {ops : Array Oper} {rest : List Oper} {o : Oper} {a : Act} {Q : Exit → Act → World → Prop}
theorem tm_look_ok (hg : o.guard = none) (m x : Operand) (hop : o.op = Op.lookup 193 m x true) (b n : Nat) (f : Held) (hm : a.eval m = .map (some b)) (hown : TMap w b n f)
    (i j k : Int) (hx : a.eval x = .agg #[.int .i64 i, .int .i64 j, .int .i64 k]) (hi : I64 i) (hj : I64 j) (hk : I64 k)
    (hK : wpList Tryz.prog ops Q rest (a.put o.dst (.tuple #[.int .i64 ((f i j k).getD 0), .bool (f i j k).isSome])) w) : wpList Tryz.prog ops Q (o :: rest) a w := by
  obtain ⟨D, h, hD⟩ := hown
  refine wpList_lookup_own_ok_int _ hg m x 193 hop 85 2 .i64 triLaw Tryz.underlying193 Tryz.underlying2 (i64Zero _) b n D hm h _ _ hx (tkey_of hi hj hk) ?_
  intro c hc _
  rw [(hD i j k hi hj hk).2] at hc
  simp only [DataW.lit.injEq, Lit.int.injEq, true_and] at hc
  rw [← hc, (hD i j k hi hj hk).1]; exact hK
end
end Go.Proofs.YteopplldbcgjjaaGreatDoor.Mx
namespace Go.Proofs.YteopplldbcgjjaaGreatDoor.Mx
open Go.ChangeShapes Go.WideShapes Go.ChangeAt Go.RowKit Go.Maps
set_option linter.unusedVariables false
abbrev Tri := Int × Int × Int
def Tris (w : World) (B : Nat) (A : Option Addr) (L : List Tri) : Prop :=
  ∀ i, i < L.length → ∃ b off, A = some ⟨b, off, none⟩ ∧ b < B ∧ w.cell? ⟨b, off + i * 3, none⟩ = some (.int .i64 (L.getD i (0, 0, 0)).1) ∧ w.cell? ⟨b, off + i * 3 + 1, none⟩ = some (.int .i64 (L.getD i (0, 0, 0)).2.1) ∧ w.cell? ⟨b, off + i * 3 + 2, none⟩ = some (.int .i64 (L.getD i (0, 0, 0)).2.2)
def TriI (L : List Tri) : Prop := ∀ i, i < L.length → I64 (L.getD i (0, 0, 0)).1 ∧ I64 (L.getD i (0, 0, 0)).2.1 ∧ I64 (L.getD i (0, 0, 0)).2.2
theorem Tris.below {w w' : World} {B B' : Nat} {A : Option Addr} {L : List Tri} (h : Tris w B A L) (hb : Below B' w w') (hB : B ≤ B') : Tris w' B A L := by
  intro i hi
  obtain ⟨b, off, rfl, hlt, c0, c1, c2⟩ := h i hi
  have f := fun o => hb.cell (p := ⟨b, o, none⟩) (Nat.lt_of_lt_of_le hlt hB)
  exact ⟨b, off, rfl, hlt, (f _).trans c0, (f _).trans c1, (f _).trans c2⟩
noncomputable def tagsHeld (key : Int) (L : List Tri) : Held := fun a t v => if (a, t, v) ∈ L then some (tagOf key a t v) else Option.none
theorem tagsHeld_nil (key : Int) : tagsHeld key [] = Held.none := by funext a t v; simp [tagsHeld, Held.none]
theorem tagsHeld_snoc (key : Int) (L : List Tri) (a t v : Int) : tagsHeld key (L ++ [(a, t, v)]) = (tagsHeld key L).put a t v (tagOf key a t v) := by
  funext x y z
  by_cases e : x = a ∧ y = t ∧ z = v
  · obtain ⟨rfl, rfl, rfl⟩ := e; simp [tagsHeld, Held.put]
  · simp [tagsHeld, Held.put, e]
theorem tagsHeld_there (key : Int) (L : List Tri) (a t v : Int) (h : (a, t, v) ∈ L) : tagsHeld key (L ++ [(a, t, v)]) = tagsHeld key L := by
  funext x y z
  by_cases e : x = a ∧ y = t ∧ z = v
  · obtain ⟨rfl, rfl, rfl⟩ := e; simp [tagsHeld, h]
  · simp [tagsHeld, e]
theorem take_snoc {L : List Tri} {k : Nat} (h : k < L.length) : L.take (k + 1) = L.take k ++ [L.getD k (0, 0, 0)] := by
  rw [List.take_succ_eq_append_getElem h, List.getD_eq_getElem?_getD, List.getElem?_eq_getElem h]; rfl
theorem i64_tag (key a t v : Int) : I64 (tagOf key a t v) := by have := tagOf_bd key a t v; exact ⟨by omega, by omega⟩
set_option maxHeartbeats 1000000 in
theorem tagsOf_calls (key : Int) (A : Option Addr) (L : List Tri) (cap : Nat) (w : World) (hn : L.length < maxLen) (hA : Tris w w.heap.size A L) (hI : TriI L) :
    Calls Tryz.prog 143 #[.int .i64 key, .slice A L.length cap] w fun e w' => e = .returned (.map (some w.heap.size)) ∧ TMap w' w.heap.size L.length (tagsHeld key L) ∧ Below w.heap.size w w' := by
  have hm := hn
  unfold maxLen at hm
  have hmm := @run_makeMap Tryz.prog
  have HA := Lib.hid hA
  have HI := Lib.hid hI
  have HN := Lib.hid hn
  clear hA hI hn
  go_enter Tryz.func143, Tryz.ntmps143
  go_wp2_with fail
  clear hmm
  go_loopw [13] (fun i wr => ∃ k : Nat, k ≤ L.length ∧ i = .int .i64 k ∧ Below w.heap.size w wr ∧ TMap wr w.heap.size k (tagsHeld key (L.take k))) (fun i _ => L.length - (intOf i).toNat)
  case atStart => exact ⟨0, Nat.zero_le _, rfl, (Below.refl _ _).alloc (Nat.le_refl _) _, by rw [List.take_zero, tagsHeld_nil]; exact TMap.made w⟩
  case round =>
    obtain ⟨k, hk, rfl, hbel, hmap⟩ := hrel
    have HB := Lib.hid hbel
    have HM := Lib.hid hmap
    have hAr := HA.out.below hbel (Nat.le_refl _)
    clear hbel hmap
    by_cases hlt : k < L.length
    · obtain ⟨b, off, rfl, hb, c0, c1, c2⟩ := hAr k hlt
      have hlt' : (k : Int) < L.length := by omega
      have hk0 : (0 : Int) ≤ k := by omega
      have HS := Lib.hid (take_snoc hlt)
      have HT := Lib.hid (HI.out k hlt)
      clear hAr
      generalize L.getD k (0, 0, 0) = T at c0 c1 c2 HS HT
      obtain ⟨a, t, v⟩ := T
      simp only at c0 c1 c2
      have I1 := HT.out.1
      have I2 := HT.out.2.1
      have I3 := HT.out.2.2
      simp only at I1 I2 I3
      have J1 := Lib.hid I1
      have J2 := Lib.hid I2
      have J3 := Lib.hid I3
      clear I1 I2 I3 HT
      have HC := Lib.hid (fun w => tagged_calls key a t v w)
      have HK := Lib.hid (i64_tag key a t v)
      by_cases hin : (a, t, v) ∈ L.take k
      · have hs : (tagsHeld key (L.take k) a t v).isSome = true := by simp [tagsHeld, hin]
        have HQ := Lib.hid hs
        have HE := Lib.hid (tagsHeld_there key (L.take k) a t v hin)
        clear hs hin
        go_wp2_with (at_lookup; refine tm_look_ok _ rfl _ _ rfl w.heap.size k (tagsHeld key (L.take k)) rfl (HM.out.alloc _) a t v rfl J1.out J2.out J3.out ?_; rw [HQ.out])
        go_roundw
        case rel => exact ⟨k + 1, by omega, by go_num, HB.out.alloc HB.out.size _, by rw [HS.out, HE.out]; exact (HM.out.alloc _).mono (by omega)⟩
        case measure => simp [intOf]; omega
      · have hs : (tagsHeld key (L.take k) a t v).isSome = false := by simp [tagsHeld, hin]
        have HQ := Lib.hid hs
        have HE := Lib.hid (tagsHeld_snoc key (L.take k) a t v)
        clear hs hin
        generalize tagOf key a t v = d at HC HK HE
        go_wp2_with (at_lookup; refine tm_look_ok _ rfl _ _ rfl w.heap.size k (tagsHeld key (L.take k)) rfl (HM.out.alloc _) a t v rfl J1.out J2.out J3.out ?_; rw [HQ.out])
        go_region_with (go_at_call 154; refine (HC.out _).mono ?_; rintro e wx ⟨rfl, bx⟩; go_loud (have hx : TMap wx w.heap.size k (tagsHeld key (L.take k)) := TMap.below (TMap.drew (HM.out.alloc _)) bx (Nat.lt_of_lt_of_le HM.out.lt (by simp [World.drew]))); obtain ⟨w2, hrun, hm2, hg2⟩ := hx.put (by unfold maxLen; omega) J1.out J2.out J3.out HK.out; have hcx := (CellsAt.new wr 85 #[.int .i64 a, .int .i64 t, .int .i64 v]).drew.below bx (by simp [World.drew]); have d0 : wx.cell? ⟨wr.heap.size, 0, none⟩ = some (.int .i64 a) := hcx.cell 0; have d1 : wx.cell? ⟨wr.heap.size, 1, none⟩ = some (.int .i64 t) := hcx.cell 1; have d2 : wx.cell? ⟨wr.heap.size, 2, none⟩ = some (.int .i64 v) := hcx.cell 2; clear hcx; have BX := Lib.hid bx; have M2 := Lib.hid hm2; have G2 := Lib.hid hg2; clear bx hx hm2 hg2)
        all_goals
          go_wp2_with fail
          go_roundw
          case rel =>
            refine ⟨k + 1, by omega, by go_num, ?_, by rw [HS.out, HE.out]; exact M2.out⟩
            exact bgb ((HB.out.alloc HB.out.size _).drew.trans (BX.out.mono (show w.heap.size ≤ _ from Nat.le_trans HB.out.size (by simp [World.drew])))) G2.out (Nat.le_trans HB.out.size (Nat.le_trans (by simp [World.drew]) BX.out.size)) (Nat.le_refl _)
          case measure => simp [intOf]; omega
    · have hk' : k = L.length := by omega
      clear hAr
      have HQ := Lib.hid (show L.take k = L by rw [hk', List.take_length])
      have HK := Lib.hid hk'
      clear hk'
      go_wp2_with fail
      go_ret
      exact ⟨rfl, by have := HM.out; rw [HQ.out] at this; exact this.mono hk, HB.out⟩
def OneTag (key a t v : Int) (u : World) (e : Ending) (w' : World) : Prop :=
  ∃ m, e = .returned (.map (some m)) ∧ TMap w' m 1 (tagsHeld key [(a, t, v)]) ∧ Below u.heap.size u w'
theorem tagsOf_one (key a t v : Int) (g : Nat) (u : World) (hb : CellsAt u g 85 #[.int .i64 a, .int .i64 t, .int .i64 v]) (ha : I64 a) (ht : I64 t) (hv : I64 v) :
    Calls Tryz.prog 143 #[.int .i64 key, .slice (some ⟨g, 0, none⟩) 1 1] u (OneTag key a t v u) := by
  refine (tagsOf_calls key (some ⟨g, 0, none⟩) [(a, t, v)] 1 u (by simp [maxLen])
    (fun i hi => by
      obtain rfl : i = 0 := by simp at hi; omega
      exact ⟨_, 0, rfl, hb.lt, hb.cell 0, hb.cell 1, hb.cell 2⟩)
    (fun i hi => by
      obtain rfl : i = 0 := by simp at hi; omega
      exact ⟨ha, ht, hv⟩)).mono ?_
  rintro e w' ⟨rfl, hm, h⟩
  exact ⟨_, rfl, hm, h⟩
def OneTagB (key a t v : Int) (w : World) (e : Ending) (w' : World) : Prop :=
  ∃ m, e = .returned (.map (some m)) ∧ (Instr.lookup 193 (.map (some m)) (.agg #[.int .i64 a, .int .i64 t, .int .i64 v]) false).run Tryz.prog w' = .ok (.int .i64 (tagOf key a t v)) w' ∧
    w'.cell? ⟨w.heap.size, 0, none⟩ = some (.int .i64 a) ∧ w'.cell? ⟨w.heap.size, 1, none⟩ = some (.int .i64 t) ∧ w'.cell? ⟨w.heap.size, 2, none⟩ = some (.int .i64 v) ∧ Below w.heap.size w w'
theorem tagsOf_boxed (key a t v : Int) (w : World) (ha : I64 a) (ht : I64 t) (hv : I64 v) :
    Calls Tryz.prog 143 #[.int .i64 key, .slice (some ⟨w.heap.size + 1, 0, none⟩) 1 1]
      ((w.alloc (.cells #[.int .i64 a, .int .i64 t, .int .i64 v] 85)).alloc (.cells #[.int .i64 a, .int .i64 t, .int .i64 v] 85)).drew (OneTagB key a t v w) := by
  have h0 := CellsAt.new w 85 #[.int .i64 a, .int .i64 t, .int .i64 v]
  have h1 := CellsAt.new (w.alloc (.cells #[.int .i64 a, .int .i64 t, .int .i64 v] 85)) 85 #[.int .i64 a, .int .i64 t, .int .i64 v]
  rw [show (w.alloc (.cells #[.int .i64 a, .int .i64 t, .int .i64 v] 85)).heap.size = w.heap.size + 1 by simp] at h1
  refine (tagsOf_one key a t v _ _ h1.drew ha ht hv).mono ?_
  rintro e w' ⟨m, rfl, hm, hb⟩
  have hr := hm.look ha ht hv
  rw [show (tagsHeld key [(a, t, v)] a t v).getD 0 = tagOf key a t v by simp [tagsHeld]] at hr
  have h2 := (h0.below ((Below.refl (w.heap.size + 1) _).alloc (by simp) _) (by omega)).drew.below hb (by simp [World.drew]; omega)
  exact ⟨m, rfl, hr, h2.cell 0, h2.cell 1, h2.cell 2, ((((Below.refl w.heap.size w).alloc (Nat.le_refl _) _).alloc (by simp) _).drew).trans (hb.mono (by simp [World.drew]; omega))⟩
set_option maxHeartbeats 1000000 in
theorem tag_calls (key a t v : Int) (w : World) (ha : I64 a) (ht : I64 t) (hv : I64 v) :
    Calls Tryz.prog 114 #[.int .i64 key, .agg #[.int .i64 a, .int .i64 t, .int .i64 v]] w fun e w' => e = .returned (.int .i64 (tagOf key a t v)) ∧ Below w.heap.size w w' := by
  have HC := Lib.hid (tagsOf_boxed key a t v w ha ht hv)
  unfold OneTagB at HC
  generalize tagOf key a t v = d at HC
  clear ha ht hv
  go_enter Tryz.func114, Tryz.ntmps114
  go_wp2_with fail
  go_region_with (go_at_call 143; refine HC.out.mono ?_; rintro e wx ⟨m, rfl, hrun, d0, d1, d2, bx⟩; have BX := Lib.hid bx; clear bx)
  all_goals
    go_wp2_with fail
    go_ret
    exact ⟨rfl, BX.out⟩
end Go.Proofs.YteopplldbcgjjaaGreatDoor.Mx
namespace Go.Proofs.YteopplldbcgjjaaGreatDoor.Mx
open Go.ChangeShapes Go.WideShapes Go.ChangeAt Go.RowKit
set_option linter.unusedVariables false
theorem cellOf_i64 {key a t v : Int} (hk : I64 key) (ht : I64 t) : I64 (cellOf key a t v).1 ∧ I64 (cellOf key a t v).2 := by
  by_cases h : isKey key ∧ isTri a t v
  · rw [cellOf_yes h.1 h.2]
    refine ⟨h.2.i64.2.1, ?_⟩
    have hs := streamOf_nat h.1.1 h.1.2 h.2.1.1 h.2.2.1.1
    simp only []
    unfold hiddenOf
    rw [turnOf_yes hs h.2.2.2]
    unfold I64; omega
  · rw [cellOf_no h]; exact ⟨⟨by decide, by decide⟩, ⟨by decide, by decide⟩⟩
theorem triI64 (a t v : Int) : I64 (tripleIn a t v).1 ∧ I64 (tripleIn a t v).2.1 ∧ I64 (tripleIn a t v).2.2 := by
  by_cases h : isTri a t v
  · rw [tripleIn_yes h]; exact h.i64
  · rw [tripleIn_no h]; exact ⟨⟨by decide, by decide⟩, ⟨by decide, by decide⟩, ⟨by decide, by decide⟩⟩
theorem allocP (w : World) (o : Obj) : Below w.heap.size w (w.alloc o) := (Below.refl _ _).alloc (Nat.le_refl _) _
theorem gb_newP {w w' : World} {g b : Nat} (h : w.grownBy w' (some g)) (hb : w.heap.size ≤ b) (i : Nat) (u : Value) : w.grownBy (w'.setCell ⟨b, i, none⟩ u) (some g) :=
  ⟨h.os, h.tape, h.output, by simpa [World.setCell] using h.size, fun k hk hr => (Below.heap_setCell _ _ _ _ (by simp; omega)).trans (h.block k hk hr)⟩
theorem gb_belowP {a b c : World} {g : Nat} (h : a.grownBy b (some g)) (hb : Below a.heap.size b c) : a.grownBy c (some g) :=
  ⟨hb.os.trans h.os, hb.tape.trans h.tape, hb.output.trans h.output, Nat.le_trans h.size hb.size, fun k hk hr => (hb.block k hk).trans (h.block k hk hr)⟩
noncomputable def tagIn (key a x1 x2 : Int) : Int := tagOf key (tripleIn a x1 x2).1 (tripleIn a x1 x2).2.1 (tripleIn a x1 x2).2.2
set_option maxRecDepth 20000 in
set_option maxHeartbeats 4000000 in
theorem added_calls (s key a x1 x2 : Int) (w : World) (ha : I64 a) (h1 : I64 x1) (h2 : I64 x2) :
    Calls Tryz.prog 73 #[.int .i64 s, .int .i64 key, .int .i64 a, .agg #[.int .i64 x1, .int .i64 x2]] w fun e w' => e = .returned (.int .i64 (addOf s (tagIn key a x1 x2))) ∧ Below w.heap.size w w' := by
  unfold tagIn
  have CT := Lib.hid (fun u => ansTripleIn a x1 x2 u ha h1 h2)
  have h3 := triI64 a x1 x2
  generalize (tripleIn a x1 x2).1 = y1 at CT h3 ⊢
  generalize (tripleIn a x1 x2).2.1 = y2 at CT h3 ⊢
  generalize (tripleIn a x1 x2).2.2 = y3 at CT h3 ⊢
  have CG := Lib.hid (fun u => tag_calls key y1 y2 y3 u h3.1 h3.2.1 h3.2.2)
  generalize tagOf key y1 y2 y3 = g at CG ⊢
  have CA := Lib.hid (fun u => add_calls s g u)
  generalize addOf s g = z at CA ⊢
  have K0 := Lib.hid (show Kept w [(w.heap.size, 30, #[.int .i64 x1, .int .i64 x2])] _ from (Kept.refl w).put1 _ _ #[.int .i64 x1, .int .i64 x2] rfl)
  clear h3 ha h1 h2
  go_enter Tryz.func73, Tryz.ntmps73
  go_upto_region 1 with fail
  have hk0 := K0.out
  clear K0
  generalize World.alloc _ _ = w0 at hk0 ⊢
  obtain ⟨kc0, kf0, -⟩ := hk0.rd
  go_wp2_with fail
  refine (CT.out _).mono ?_; rintro e w2 ⟨rfl, b2⟩
  have hk2 := hk0.below b2
  clear hk0 b2 kc0 kf0 CT
  go_wp2_with fail
  refine (CG.out _).mono ?_; rintro e w3 ⟨rfl, b3⟩
  have hk3 := hk2.below b3
  clear hk2 b3 CG
  go_wp2_with fail
  refine (CA.out _).mono ?_; rintro e w4 ⟨rfl, rfl⟩
  go_wp2_with fail
  go_ret
  exact ⟨rfl, hk3.1⟩
set_option maxRecDepth 20000 in
set_option maxHeartbeats 4000000 in
theorem put_calls (key a c s v : Int) (p k : Nat) (cs : Array Value) (w : World) (hkey : I64 key) (ha : I64 a) (hc0 : 0 ≤ c) (hc1 : c ≤ 1000000) (hv : I64 v) (hp : CellsAt w p 28 cs) (e0 : cs[0]? = some (.int .i64 c)) (ek : cs[k]? = some (.int .i64 s)) (k0 : 0 < k) :
    Calls Tryz.prog 38 #[.pointer (some ⟨p, 0, none⟩), .pointer (some ⟨p, k, none⟩), .int .i64 key, .int .i64 a, .int .i64 v] w fun e w' =>
      e = .returned (.agg #[.int .i64 (cellOf key a (c + 1) v).1, .int .i64 (cellOf key a (c + 1) v).2]) ∧ w.grownBy w' (some p) ∧
      CellsAt w' p 28 ((cs.setIfInBounds 0 (.int .i64 (c + 1))).setIfInBounds k (.int .i64 (addOf s (tagIn key a (cellOf key a (c + 1) v).1 (cellOf key a (c + 1) v).2)))) := by
  have hi := cellOf_i64 (a := a) (t := c + 1) (v := v) hkey ⟨by omega, by omega⟩
  have CC := Lib.hid (fun u => ansCellOf key a (c + 1) v u hkey ha ⟨by omega, by omega⟩ hv)
  generalize (cellOf key a (c + 1) v).1 = x1 at CC hi ⊢
  generalize (cellOf key a (c + 1) v).2 = x2 at CC hi ⊢
  have CA := Lib.hid (fun u => added_calls s key a x1 x2 u ha hi.1 hi.2)
  generalize addOf s (tagIn key a x1 x2) = z at CA ⊢
  have hwc : IntKind.i64.wrap (c + 1) = c + 1 := IntWalk.i64_in _ (by omega)
  have lp := hp.lt
  have P0 := Lib.hid (show CellsAt (w.alloc (.cells #[.int .i64 0, .int .i64 0] 30)) p 28 cs from hp.below (allocP w _) lp)
  have G0 := Lib.hid (show w.grownBy (w.alloc (.cells #[.int .i64 0, .int .i64 0] 30)) (some p) from gb_alloc (gb_refl w (some p)) _)
  have R0 := Lib.hid (show CellsAt (w.alloc (.cells #[.int .i64 0, .int .i64 0] 30)) w.heap.size 30 #[.int .i64 0, .int .i64 0] from CellsAt.new w _ _)
  have E0 := Lib.hid e0
  have EK := Lib.hid ek
  have hne : ¬ p = w.heap.size := by omega
  have hne' : ¬ w.heap.size = p := by omega
  clear hp hi ha hkey hv e0 ek
  go_enter Tryz.func38, Tryz.ntmps38
  go_upto_region 1 with fail
  have hp0 := P0.out
  have hg0 := G0.out
  have hr0 := R0.out
  clear P0 G0 R0
  generalize World.alloc _ _ = w0 at hp0 hg0 hr0 ⊢
  have c0 : w0.cell? ⟨p, 0, none⟩ = some (.int .i64 c) := (hp0.cell 0).trans E0.out
  have f0 : ∀ i, w0.frozen? ⟨p, i, none⟩ = false := hp0.frozen
  go_upto_region 2 with fail
  have hp1 := hp0.set_ 0 (.int .i64 (c + 1))
  have hg1 := gb_set hg0 0 (.int .i64 (c + 1))
  have hr1 := hr0.grown (gb_set (gb_refl w0 (some p)) 0 (.int .i64 (c + 1))) (by intro e; injection e; omega)
  clear hp0 hg0 hr0 c0 f0
  generalize World.setCell _ _ _ = w1 at hp1 hg1 hr1 ⊢
  have hsz : cs.size ≠ 0 := by intro h; have := E0.out; rw [Array.getElem?_eq_none (by omega)] at this; cases this
  have c1 : w1.cell? ⟨p, 0, none⟩ = some (.int .i64 (c + 1)) := by rw [hp1.cell 0, Array.getElem?_setIfInBounds_self_of_lt (by omega)]
  go_wp2_with fail
  refine (CC.out _).mono ?_; rintro e w2 ⟨rfl, b2⟩
  have hp2 := hp1.below b2 hp1.lt
  have hr2 := hr1.below b2 hr1.lt
  have hg2 := gb_belowP hg1 (b2.mono hg1.size)
  have l2 : w.heap.size < w2.heap.size := hr2.lt
  clear hp1 hr1 hg1 b2 c1 CC
  have hp3 := hp2.below (allocP w2 (.cells #[.int .i64 x1, .int .i64 x2] 30)) hp2.lt
  have hr3 := hr2.below (allocP w2 (.cells #[.int .i64 x1, .int .i64 x2] 30)) hr2.lt
  have hg3 := gb_alloc hg2 (.cells #[.int .i64 x1, .int .i64 x2] 30)
  have hq3 := CellsAt.new w2 30 #[.int .i64 x1, .int .i64 x2]
  have hne2 : ¬ p = w2.heap.size := by omega
  have hne2' : ¬ w2.heap.size = p := by omega
  clear hp2 hr2 hg2
  go_upto_region 3 with fail
  generalize hw3 : World.alloc _ _ = w3 at hp3 hr3 hg3 hq3 ⊢
  clear hw3
  have CK : ∀ u, Below w3.heap.size w3 u → u.cell? ⟨p, k, none⟩ = some (.int .i64 s) ∧ (∀ i, u.frozen? ⟨p, i, none⟩ = false) ∧ (∀ i, u.cell? ⟨w2.heap.size, i, none⟩ = #[.int .i64 x1, .int .i64 x2][i]?) := fun u hu =>
    ⟨((hp3.below hu hp3.lt).cell k).trans (by rw [Array.getElem?_setIfInBounds_ne (by omega)]; exact EK.out), (hp3.below hu hp3.lt).frozen, (hq3.below hu hq3.lt).cell⟩
  have HK := Lib.hid CK
  have HP := Lib.hid hp3
  have HR := Lib.hid hr3
  have HG := Lib.hid hg3
  have HQ := Lib.hid hq3
  clear CK hp3 hr3 hg3 hq3 hsz
  refine wp_region_class_tail (C := fun u => Below w3.heap.size w3 u) 9 (by kernel_rfl) (by kernel_rfl) (Below.refl _ _).drew ?_
  simp only [List.take_succ_cons, List.take_zero, List.drop_succ_cons, List.drop_zero]
  iterate 9 (first
    | go_big_quiet_skip
    | (go_big_quiet_want
       go_big_quiet_op
       first
         | go_big_quiet_on
         | (apply Exists.intro
            refine ⟨fun u hu => ?_, ?_⟩
            · first
                | with_reducible rfl
                | (go_at_call 73; refine (CA.out u).mono ?_; rintro e wx ⟨rfl, bx⟩; exact ⟨rfl, hu.trans (bx.mono hu.size)⟩)
                | (obtain ⟨ck, cf, cq⟩ := HK.out u hu; go_simp; first | done | with_reducible rfl)
            go_big_quiet_on)))
  refine wpQuiet_nil ?_
  intro w4 hb4
  obtain ⟨ck, cf, cq⟩ := HK.out w4 hb4
  have hp4 := HP.out.below hb4 HP.out.lt
  have hr4 := HR.out.below hb4 HR.out.lt
  have hq4 := HQ.out.below hb4 HQ.out.lt
  have hg4 := gb_belowP HG.out (hb4.mono HG.out.size)
  clear HP HR HQ HG HK CA hb4
  go_upto_region 4 with fail
  have hp5 := hp4.set_ k (.int .i64 z)
  have hr5 := hr4.grown (gb_set (gb_refl w4 (some p)) k (.int .i64 z)) (by intro e; injection e; omega)
  have hq5 := hq4.grown (gb_set (gb_refl w4 (some p)) k (.int .i64 z)) (by intro e; injection e; omega)
  have hg5 := gb_set hg4 k (.int .i64 z)
  clear hp4 hr4 hq4 hg4 ck cf cq
  generalize World.setCell _ _ _ = w5 at hp5 hr5 hq5 hg5 ⊢
  have qc : ∀ i, w5.cell? ⟨w2.heap.size, i, none⟩ = #[.int .i64 x1, .int .i64 x2][i]? := hq5.cell
  have rc : ∀ i, w5.cell? ⟨w.heap.size, i, none⟩ = #[.int .i64 0, .int .i64 0][i]? := hr5.cell
  have rf : ∀ i, w5.frozen? ⟨w.heap.size, i, none⟩ = false := hr5.frozen
  go_wp2_with fail
  have hr6 := (hr5.set_ 0 (.int .i64 x1)).set_ 1 (.int .i64 x2)
  have hg56 := gb_set (gb_set (gb_refl w5 (some w.heap.size)) 0 (.int .i64 x1)) 1 (.int .i64 x2)
  have hp6 := hp5.grown hg56 (by intro e; injection e; omega)
  have hg6 : w.grownBy _ (some p) := gb_newP (gb_newP hg5 (Nat.le_refl _) 0 (.int .i64 x1)) (Nat.le_refl _) 1 (.int .i64 x2)
  clear qc rc rf hr5 hq5 hp5 hg5 hg56
  generalize World.setCell _ _ _ = w6 at hr6 hp6 hg6 ⊢
  have rc : ∀ i, w6.cell? ⟨w.heap.size, i, none⟩ = #[.int .i64 x1, .int .i64 x2][i]? := hr6.cell
  exact bodyPost_ret (v := .agg #[.int .i64 x1, .int .i64 x2]) (by simp [results, Tryz.results38, go_sem, rc]) rfl ⟨rfl, hg6, hp6⟩
end Go.Proofs.YteopplldbcgjjaaGreatDoor.Mx
namespace Go.Proofs.YteopplldbcgjjaaGreatDoor.Mx
open Go.ChangeShapes Go.WideShapes Go.ChangeAt Go.RowKit
set_option linter.unusedVariables false
theorem trust_end {w w1 : World} {r : Nat} {x0 x1 x2 x3 x4 x5 x6 x7 z0 z1 z2 z3 z4 z5 z6 z7 : Value} (hk : CellsAt w1 r 28 #[z0, z1, z2, z3, z4, z5, z6, z7]) (hb : Below w.heap.size w w1) (hr : w.heap.size ≤ r) :
    ∃ w4, ((((((((w1.setCell ⟨r, 0, none⟩ x0).setCell ⟨r, 1, none⟩ x1).setCell ⟨r, 2, none⟩ x2).setCell ⟨r, 3, none⟩ x3).setCell ⟨r, 4, none⟩ x4).setCell ⟨r, 5, none⟩ x5).setCell ⟨r, 6, none⟩ x6).setCell ⟨r, 7, none⟩ x7) = w4 ∧ (w4.cell? ⟨r, 0, none⟩ = some x0 ∧ w4.cell? ⟨r, 1, none⟩ = some x1 ∧ w4.cell? ⟨r, 2, none⟩ = some x2 ∧ w4.cell? ⟨r, 3, none⟩ = some x3 ∧ w4.cell? ⟨r, 4, none⟩ = some x4 ∧ w4.cell? ⟨r, 5, none⟩ = some x5 ∧ w4.cell? ⟨r, 6, none⟩ = some x6 ∧ w4.cell? ⟨r, 7, none⟩ = some x7) ∧ CellsAt w4 r 28 #[x0, x1, x2, x3, x4, x5, x6, x7] ∧ Below w.heap.size w w4 ∧ w1.grownBy w4 (some r) := by
  have h0 := ((((((((hk.set_ 0 x0).set_ 1 x1).set_ 2 x2).set_ 3 x3).set_ 4 x4).set_ 5 x5).set_ 6 x6).set_ 7 x7)
  simp only [List.setIfInBounds_toArray, List.set_cons_zero, List.set_cons_succ] at h0
  refine ⟨_, rfl, ?_, h0, ((((((((hb.setCell (p := ⟨r, 0, none⟩) hr x0).setCell (p := ⟨r, 1, none⟩) hr x1).setCell (p := ⟨r, 2, none⟩) hr x2).setCell (p := ⟨r, 3, none⟩) hr x3).setCell (p := ⟨r, 4, none⟩) hr x4).setCell (p := ⟨r, 5, none⟩) hr x5).setCell (p := ⟨r, 6, none⟩) hr x6).setCell (p := ⟨r, 7, none⟩) hr x7), (gb_set (gb_set (gb_set (gb_set (gb_set (gb_set (gb_set (gb_set (gb_refl w1 (some r)) 0 x0) 1 x1) 2 x2) 3 x3) 4 x4) 5 x5) 6 x6) 7 x7)⟩
  generalize World.setCell _ _ _ = w4 at h0 ⊢
  exact ⟨h0.cell 0, h0.cell 1, h0.cell 2, h0.cell 3, h0.cell 4, h0.cell 5, h0.cell 6, h0.cell 7⟩
end Go.Proofs.YteopplldbcgjjaaGreatDoor.Mx
namespace Go.Proofs.YteopplldbcgjjaaGreatDoor.Mx
open Go.ChangeShapes Go.WideShapes Go.ChangeAt Go.RowKit
set_option linter.unusedVariables false
end Go.Proofs.YteopplldbcgjjaaGreatDoor.Mx
namespace Go.Proofs.YteopplldbcgjjaaGreatDoor.Mx
open Go.ChangeShapes Go.WideShapes Go.ChangeAt Go.RowKit
set_option linter.unusedVariables false
end Go.Proofs.YteopplldbcgjjaaGreatDoor.Mx
namespace Go.Proofs.YteopplldbcgjjaaGreatDoor.Mx
open Go.ChangeShapes Go.WideShapes Go.ChangeAt Go.RowKit
set_option linter.unusedVariables false
theorem cells_end {w w1 : World} {q : Nat} {y0 y1 s0 s1 : Value} (hq : CellsAt w1 q 30 #[s0, s1]) : CellsAt ((w1.setCell ⟨q, 0, none⟩ y0).setCell ⟨q, 1, none⟩ y1) q 30 #[y0, y1] := by
  have h := (hq.set_ 0 y0).set_ 1 y1
  simp only [List.setIfInBounds_toArray, List.set_cons_zero, List.set_cons_succ] at h
  exact h
theorem touch_end {w w1 : World} {r q : Nat} {x0 x1 x2 x3 x4 x5 x6 x7 z0 z1 z2 z3 z4 z5 z6 z7 y0 y1 s0 s1 : Value} (hk : CellsAt w1 r 28 #[z0, z1, z2, z3, z4, z5, z6, z7]) (hq : CellsAt w1 q 30 #[s0, s1]) (hne : r ≠ q) (hb : Below w.heap.size w w1) (hr : w.heap.size ≤ r) (hr' : w.heap.size ≤ q) :
    ∃ w4, ((((((((((w1.setCell ⟨r, 0, none⟩ x0).setCell ⟨r, 1, none⟩ x1).setCell ⟨r, 2, none⟩ x2).setCell ⟨r, 3, none⟩ x3).setCell ⟨r, 4, none⟩ x4).setCell ⟨r, 5, none⟩ x5).setCell ⟨r, 6, none⟩ x6).setCell ⟨r, 7, none⟩ x7).setCell ⟨q, 0, none⟩ y0).setCell ⟨q, 1, none⟩ y1) = w4 ∧ (w4.cell? ⟨r, 0, none⟩ = some x0 ∧ w4.cell? ⟨r, 1, none⟩ = some x1 ∧ w4.cell? ⟨r, 2, none⟩ = some x2 ∧ w4.cell? ⟨r, 3, none⟩ = some x3 ∧ w4.cell? ⟨r, 4, none⟩ = some x4 ∧ w4.cell? ⟨r, 5, none⟩ = some x5 ∧ w4.cell? ⟨r, 6, none⟩ = some x6 ∧ w4.cell? ⟨r, 7, none⟩ = some x7 ∧ w4.cell? ⟨q, 0, none⟩ = some y0 ∧ w4.cell? ⟨q, 1, none⟩ = some y1) ∧ Below w.heap.size w w4 := by
  obtain ⟨w2, e2, -, h2, b2, g2⟩ := trust_end (x0 := x0) (x1 := x1) (x2 := x2) (x3 := x3) (x4 := x4) (x5 := x5) (x6 := x6) (x7 := x7) hk hb hr
  rw [e2]
  have hq2 := cells_end (w := w) (y0 := y0) (y1 := y1) (hq.grown g2 (by intro e; injection e with e; exact hne e.symm))
  have h3 := (h2.grown (gb_set (gb_refl w2 (some q)) 0 y0) (by intro e; injection e with e; exact hne e)).grown (gb_set (gb_refl _ (some q)) 1 y1) (by intro e; injection e with e; exact hne e)
  refine ⟨_, rfl, ?_, (b2.setCell (p := ⟨q, 0, none⟩) hr' y0).setCell (p := ⟨q, 1, none⟩) hr' y1⟩
  generalize World.setCell _ _ _ = w4 at hq2 h3 ⊢
  exact ⟨h3.cell 0, h3.cell 1, h3.cell 2, h3.cell 3, h3.cell 4, h3.cell 5, h3.cell 6, h3.cell 7, hq2.cell 0, hq2.cell 1⟩
end Go.Proofs.YteopplldbcgjjaaGreatDoor.Mx
namespace Go.Proofs.YteopplldbcgjjaaGreatDoor.Mx
open Go.ChangeShapes Go.WideShapes Go.ChangeAt Go.RowKit
set_option linter.unusedVariables false
def Errs (w : World) (a0 a1 a2 a3 : Addr) : Prop :=
  w.cell? ⟨4, 0, none⟩ = some hErr ∧ (w.cell? ⟨3, 0, none⟩ = some (.iface 212 (.pointer (some a0))) ∧ w.cell? ⟨0, 0, none⟩ = some (.iface 212 (.pointer (some a1))) ∧ w.cell? ⟨1, 0, none⟩ = some (.iface 212 (.pointer (some a2))) ∧ w.cell? ⟨2, 0, none⟩ = some (.iface 212 (.pointer (some a3)))) ∧
  (a0 ≠ a1 ∧ a0 ≠ a2 ∧ a0 ≠ a3 ∧ a1 ≠ a2 ∧ a1 ≠ a3 ∧ a2 ≠ a3) ∧
  (∃ c t, w.heap[a0.block]? = some (.cells c t (0, 0))) ∧ (∃ c t, w.heap[a1.block]? = some (.cells c t (0, 0))) ∧ (∃ c t, w.heap[a2.block]? = some (.cells c t (0, 0))) ∧ (∃ c t, w.heap[a3.block]? = some (.cells c t (0, 0)))
theorem cell_lt {w : World} {a : Addr} {v : Value} (h : w.cell? a = some v) : a.block < w.heap.size := by
  rcases Nat.lt_or_ge a.block w.heap.size with h' | h'
  · exact h'
  · simp [World.cell?, Array.getElem?_eq_none h'] at h
theorem Errs.below {w u : World} {a0 a1 a2 a3 : Addr} (h : Errs w a0 a1 a2 a3) (hb : Below w.heap.size w u) : Errs u a0 a1 a2 a3 := by
  obtain ⟨h0, ⟨g0, g1, g2, g3⟩, hn, ⟨c0, s0, r0⟩, ⟨c1, s1, r1⟩, ⟨c2, s2, r2⟩, ⟨c3, s3, r3⟩⟩ := h
  have K : ∀ {a : Addr} {v : Value}, w.cell? a = some v → u.cell? a = some v := fun hc => (hb.cell (cell_lt hc)).trans hc
  have R : ∀ {b : Nat} {o : Obj}, w.heap[b]? = some o → u.heap[b]? = some o := fun hc => (hb.block _ (Array.getElem?_eq_some_iff.1 hc).1).trans hc
  exact ⟨K h0, ⟨K g0, K g1, K g2, K g3⟩, hn, ⟨c0, s0, R r0⟩, ⟨c1, s1, R r1⟩, ⟨c2, s2, R r2⟩, ⟨c3, s3, R r3⟩⟩
set_option maxRecDepth 20000 in
set_option maxHeartbeats 4000000 in
theorem take_calls (key a s ct cv : Int) (p k : Nat) (cs : Array Value) (w : World) (hkey : I64 key) (ha : I64 a) (hct : I64 ct) (hcv : I64 cv) (hp : CellsAt w p 28 cs) (ek : cs[k]? = some (.int .i64 s)) :
    Calls Tryz.prog 37 #[.pointer (some ⟨p, k, none⟩), .int .i64 key, .int .i64 a, .agg #[.int .i64 ct, .int .i64 cv]] w fun e w' =>
      e = .returned (.int .i64 (valueIn key a ct cv)) ∧ w.grownBy w' (some p) ∧ CellsAt w' p 28 (cs.setIfInBounds k (.int .i64 (addOf s (tagIn key a ct cv)))) := by
  have CA := Lib.hid (fun u => added_calls s key a ct cv u ha hct hcv)
  have CV := Lib.hid (fun u => ansValueIn key a ct cv u hkey ha hct hcv)
  generalize addOf s (tagIn key a ct cv) = z at CA ⊢
  generalize valueIn key a ct cv = y at CV ⊢
  have lp := hp.lt
  have P0 := Lib.hid (show CellsAt (w.alloc (.cells #[.int .i64 ct, .int .i64 cv] 30)) p 28 cs from hp.below (allocP w _) lp)
  have G0 := Lib.hid (show w.grownBy (w.alloc (.cells #[.int .i64 ct, .int .i64 cv] 30)) (some p) from gb_alloc (gb_refl w (some p)) _)
  have R0 := Lib.hid (show CellsAt (w.alloc (.cells #[.int .i64 ct, .int .i64 cv] 30)) w.heap.size 30 #[.int .i64 ct, .int .i64 cv] from CellsAt.new w _ _)
  have EK := Lib.hid ek
  clear hp hkey ha hct hcv ek
  go_enter Tryz.func37, Tryz.ntmps37
  go_upto_region 1 with fail
  have hp0 := P0.out
  have hg0 := G0.out
  have hr0 := R0.out
  clear P0 G0 R0
  generalize World.alloc _ _ = w0 at hp0 hg0 hr0 ⊢
  have CK : ∀ u, Below w0.heap.size w0 u → u.cell? ⟨p, k, none⟩ = some (.int .i64 s) ∧ (∀ i, u.frozen? ⟨p, i, none⟩ = false) ∧ (∀ i, u.cell? ⟨w.heap.size, i, none⟩ = #[.int .i64 ct, .int .i64 cv][i]?) := fun u hu =>
    ⟨((hp0.below hu hp0.lt).cell k).trans EK.out, (hp0.below hu hp0.lt).frozen, (hr0.below hu hr0.lt).cell⟩
  have HK := Lib.hid CK
  have HP := Lib.hid hp0
  have HG := Lib.hid hg0
  have HR := Lib.hid hr0
  clear CK hp0 hg0 hr0
  refine wp_region_class_tail (C := fun u => Below w0.heap.size w0 u) 9 (by kernel_rfl) (by kernel_rfl) (Below.refl _ _).drew ?_
  simp only [List.take_succ_cons, List.take_zero, List.drop_succ_cons, List.drop_zero]
  iterate 9 (first
    | go_big_quiet_skip
    | (go_big_quiet_want
       go_big_quiet_op
       first
         | go_big_quiet_on
         | (apply Exists.intro
            refine ⟨fun u hu => ?_, ?_⟩
            · first
                | with_reducible rfl
                | (go_at_call 73; refine (CA.out u).mono ?_; rintro e wx ⟨rfl, bx⟩; exact ⟨rfl, hu.trans (bx.mono hu.size)⟩)
                | (obtain ⟨ck, cf, cq⟩ := HK.out u hu; go_simp; first | done | with_reducible rfl)
            go_big_quiet_on)))
  refine wpQuiet_nil ?_
  intro w4 hb4
  obtain ⟨ck, cf, cq⟩ := HK.out w4 hb4
  have hne : ¬ p = w.heap.size := by omega
  have hp4 := HP.out.below hb4 HP.out.lt
  have hr4 := HR.out.below hb4 HR.out.lt
  have hg4 := gb_belowP HG.out (hb4.mono HG.out.size)
  clear HP HR HG HK CA hb4
  go_upto_region 2 with fail
  have hp5 := hp4.set_ k (.int .i64 z)
  have hr5 := hr4.grown (gb_set (gb_refl w4 (some p)) k (.int .i64 z)) (by intro e; injection e; omega)
  have hg5 := gb_set hg4 k (.int .i64 z)
  clear hp4 hr4 hg4 ck cf cq
  generalize World.setCell _ _ _ = w5 at hp5 hr5 hg5 ⊢
  have rc : ∀ i, w5.cell? ⟨w.heap.size, i, none⟩ = #[.int .i64 ct, .int .i64 cv][i]? := hr5.cell
  go_wp2_with fail
  refine (CV.out _).mono ?_; rintro e w6 ⟨rfl, b6⟩
  have hp6 := hp5.below b6 hp5.lt
  have hg6 := gb_belowP hg5 (b6.mono hg5.size)
  clear hp5 hg5 hr5 rc b6
  go_wp2_with fail
  go_ret
  exact ⟨rfl, hg6, hp6⟩
-- codeOf: of the sentinels, by their places
set_option maxRecDepth 20000 in
set_option maxHeartbeats 2000000 in
theorem codeOf_0 (r : Nat) (a0 a1 a2 a3 : Addr) (zs : List Value) (w : World) (he : Errs w a0 a1 a2 a3) (hr : CellsAt w r 122 (.iface 212 (.pointer (some a0)) :: zs).toArray) :
    Calls Tryz.prog 34 #[.iface 118 (.pointer (some ⟨r, 0, none⟩))] w fun e w' => e = .returned (.int .i64 1) ∧ w = w' := by
  obtain ⟨h0, ⟨g0, g1, g2, g3⟩, ⟨n01, n02, n03, n12, n13, n23⟩, ⟨c0, s0, r0⟩, ⟨c1, s1, r1⟩, ⟨c2, s2, r2⟩, ⟨c3, s3, r3⟩⟩ := he
  have hc : w.cell? ⟨r, 0, none⟩ = some (.iface 212 (.pointer (some a0))) := by rw [hr.cell 0]; simp
  have I1 := Lib.hid (is_other r a1 a0 c0 c1 s0 s1 w hc n01 r0 r1)
  have I2 := Lib.hid (is_other r a2 a0 c0 c2 s0 s2 w hc n02 r0 r2)
  have I3 := Lib.hid (is_other r a3 a0 c0 c3 s0 s3 w hc n03 r0 r3)
  clear hr hc h0 r0 r1 r2 r3 n01 n02 n03 n12 n13 n23
  go_enter Tryz.func34, Tryz.ntmps34
  go_wp2_with fail
  refine (I1.out).mono ?_; rintro e w' ⟨rfl, rfl⟩
  go_wp2_with fail
  refine (I2.out).mono ?_; rintro e w' ⟨rfl, rfl⟩
  go_wp2_with fail
  refine (I3.out).mono ?_; rintro e w' ⟨rfl, rfl⟩
  go_wp2_with fail
  go_ret
  exact ⟨rfl, rfl⟩
set_option maxRecDepth 20000 in
set_option maxHeartbeats 2000000 in
theorem codeOf_1 (r : Nat) (a0 a1 a2 a3 : Addr) (zs : List Value) (w : World) (he : Errs w a0 a1 a2 a3) (hr : CellsAt w r 122 (.iface 212 (.pointer (some a1)) :: zs).toArray) :
    Calls Tryz.prog 34 #[.iface 118 (.pointer (some ⟨r, 0, none⟩))] w fun e w' => e = .returned (.int .i64 2) ∧ w = w' := by
  obtain ⟨h0, ⟨g0, g1, g2, g3⟩, ⟨n01, n02, n03, n12, n13, n23⟩, ⟨c0, s0, r0⟩, ⟨c1, s1, r1⟩, ⟨c2, s2, r2⟩, ⟨c3, s3, r3⟩⟩ := he
  have hc : w.cell? ⟨r, 0, none⟩ = some (.iface 212 (.pointer (some a1))) := by rw [hr.cell 0]; simp
  have I1 := Lib.hid (is_same r a1 w hc)
  have I2 := Lib.hid (is_other r a2 a1 c1 c2 s1 s2 w hc n12 r1 r2)
  have I3 := Lib.hid (is_other r a3 a1 c1 c3 s1 s3 w hc n13 r1 r3)
  clear hr hc h0 r0 r1 r2 r3 n01 n02 n03 n12 n13 n23
  go_enter Tryz.func34, Tryz.ntmps34
  go_wp2_with fail
  refine (I1.out).mono ?_; rintro e w' ⟨rfl, rfl⟩
  go_wp2_with fail
  go_ret
  exact ⟨rfl, rfl⟩
set_option maxRecDepth 20000 in
set_option maxHeartbeats 2000000 in
theorem codeOf_2 (r : Nat) (a0 a1 a2 a3 : Addr) (zs : List Value) (w : World) (he : Errs w a0 a1 a2 a3) (hr : CellsAt w r 122 (.iface 212 (.pointer (some a2)) :: zs).toArray) :
    Calls Tryz.prog 34 #[.iface 118 (.pointer (some ⟨r, 0, none⟩))] w fun e w' => e = .returned (.int .i64 3) ∧ w = w' := by
  obtain ⟨h0, ⟨g0, g1, g2, g3⟩, ⟨n01, n02, n03, n12, n13, n23⟩, ⟨c0, s0, r0⟩, ⟨c1, s1, r1⟩, ⟨c2, s2, r2⟩, ⟨c3, s3, r3⟩⟩ := he
  have hc : w.cell? ⟨r, 0, none⟩ = some (.iface 212 (.pointer (some a2))) := by rw [hr.cell 0]; simp
  have I1 := Lib.hid (is_other r a1 a2 c2 c1 s2 s1 w hc n12.symm r2 r1)
  have I2 := Lib.hid (is_same r a2 w hc)
  have I3 := Lib.hid (is_other r a3 a2 c2 c3 s2 s3 w hc n23 r2 r3)
  clear hr hc h0 r0 r1 r2 r3 n01 n02 n03 n12 n13 n23
  go_enter Tryz.func34, Tryz.ntmps34
  go_wp2_with fail
  refine (I1.out).mono ?_; rintro e w' ⟨rfl, rfl⟩
  go_wp2_with fail
  refine (I2.out).mono ?_; rintro e w' ⟨rfl, rfl⟩
  go_wp2_with fail
  go_ret
  exact ⟨rfl, rfl⟩
set_option maxRecDepth 20000 in
set_option maxHeartbeats 2000000 in
theorem codeOf_3 (r : Nat) (a0 a1 a2 a3 : Addr) (zs : List Value) (w : World) (he : Errs w a0 a1 a2 a3) (hr : CellsAt w r 122 (.iface 212 (.pointer (some a3)) :: zs).toArray) :
    Calls Tryz.prog 34 #[.iface 118 (.pointer (some ⟨r, 0, none⟩))] w fun e w' => e = .returned (.int .i64 4) ∧ w = w' := by
  obtain ⟨h0, ⟨g0, g1, g2, g3⟩, ⟨n01, n02, n03, n12, n13, n23⟩, ⟨c0, s0, r0⟩, ⟨c1, s1, r1⟩, ⟨c2, s2, r2⟩, ⟨c3, s3, r3⟩⟩ := he
  have hc : w.cell? ⟨r, 0, none⟩ = some (.iface 212 (.pointer (some a3))) := by rw [hr.cell 0]; simp
  have I1 := Lib.hid (is_other r a1 a3 c3 c1 s3 s1 w hc n13.symm r3 r1)
  have I2 := Lib.hid (is_other r a2 a3 c3 c2 s3 s2 w hc n23.symm r3 r2)
  have I3 := Lib.hid (is_same r a3 w hc)
  clear hr hc h0 r0 r1 r2 r3 n01 n02 n03 n12 n13 n23
  go_enter Tryz.func34, Tryz.ntmps34
  go_wp2_with fail
  refine (I1.out).mono ?_; rintro e w' ⟨rfl, rfl⟩
  go_wp2_with fail
  refine (I2.out).mono ?_; rintro e w' ⟨rfl, rfl⟩
  go_wp2_with fail
  refine (I3.out).mono ?_; rintro e w' ⟨rfl, rfl⟩
  go_wp2_with fail
  go_ret
  exact ⟨rfl, rfl⟩
set_option maxRecDepth 20000 in
set_option maxHeartbeats 8000000 in
theorem leftBy_calls (r : Nat) (a : Addr) (t0 t1 t2 t3 t4 t5 t6 : Int) (t7 : Bool) (ct cv : Int) (w : World) (hg : w.cell? ⟨4, 0, none⟩ = some hErr) (hr : CellsAt w r 122 #[.iface 212 (.pointer (some a)), .int .i64 t0, .int .i64 t1, .int .i64 t2, .int .i64 t3, .int .i64 t4, .int .i64 t5, .int .i64 t6, .bool t7, .int .i64 ct, .int .i64 cv]) :
    Calls Tryz.prog 33 #[.iface 118 (.pointer (some ⟨r, 0, none⟩))] w fun e w' => e = .returned (.tuple #[.agg #[.int .i64 t0, .int .i64 t1, .int .i64 t2, .int .i64 t3, .int .i64 t4, .int .i64 t5, .int .i64 t6, .bool t7], .agg #[.int .i64 ct, .int .i64 cv]]) ∧ Below w.heap.size w w' := by
  have hlt := hr.lt
  have K0 := Lib.hid (show Kept w [(w.heap.size + 1 + 1, 118, #[.pointer none]), (w.heap.size + 1, 30, #[.int .i64 0, .int .i64 0]), (w.heap.size, 28, #[.int .i64 0, .int .i64 0, .int .i64 0, .int .i64 0, .int .i64 0, .int .i64 0, .int .i64 0, .bool false])] _ from ((((Kept.refl w).put1 _ _ #[.int .i64 0, .int .i64 0, .int .i64 0, .int .i64 0, .int .i64 0, .int .i64 0, .int .i64 0, .bool false] rfl).put1 _ _ #[.int .i64 0, .int .i64 0] (by simp)).put1 _ _ #[.pointer none] (by simp)))
  have HA := Lib.hid (fun (u : World) (hb : Below w.heap.size w u) (hp : CellsAt u (w.heap.size + 1 + 1) 118 #[.pointer none]) => as_box ⟨r, 0, none⟩ (w.heap.size + 1 + 1) (.pointer none) u ((hb.cell (cell_lt hg)).trans hg) hp)
  have HR := Lib.hid (fun (u : World) (hb : Below w.heap.size w u) => hr.below hb hlt)
  clear hg hr
  go_enter Tryz.func33, Tryz.ntmps33
  go_upto_region 2 with fail
  have k0 := K0.out
  clear K0
  generalize World.alloc (World.alloc _ _) _ = w0 at k0 ⊢
  go_wp2_with fail
  refine (HA.out _ k0.1 (k0.at_ (by simp))).mono ?_; rintro e w1 ⟨rfl, hg1, hc1⟩
  have k1 := k0.put (k := 0) rfl (by unfold Apart; simp <;> omega) hg1 hc1
  clear k0 hg1 hc1 HA
  have k1' : Kept w [(w.heap.size + 1 + 1, 118, #[.pointer (some ⟨r, 0, none⟩)]), (w.heap.size + 1, 30, #[.int .i64 0, .int .i64 0]), (w.heap.size, 28, #[.int .i64 0, .int .i64 0, .int .i64 0, .int .i64 0, .int .i64 0, .int .i64 0, .int .i64 0, .bool false])] w1 := k1
  clear k1
  have hr1 := HR.out _ k1'.1
  have c1 : ∀ i, w1.cell? ⟨r, i, none⟩ = #[.iface 212 (.pointer (some a)), .int .i64 t0, .int .i64 t1, .int .i64 t2, .int .i64 t3, .int .i64 t4, .int .i64 t5, .int .i64 t6, .bool t7, .int .i64 ct, .int .i64 cv][i]? := hr1.cell
  obtain ⟨kc0, kf0, kc1, kf1, kc2, kf2, -⟩ := k1'.rd
  go_upto_region 4 with fail
  have K4 := Lib.hid k1'
  clear k1' hr1 HR
  go_region
  all_goals
    go_wp2_with fail
    obtain ⟨w9, e9, ⟨d0, d1, d2, d3, d4, d5, d6, d7, d8, d9⟩, hb⟩ := touch_end (x0 := .int .i64 t0) (x1 := .int .i64 t1) (x2 := .int .i64 t2) (x3 := .int .i64 t3) (x4 := .int .i64 t4) (x5 := .int .i64 t5) (x6 := .int .i64 t6) (x7 := .bool t7) (y0 := .int .i64 ct) (y1 := .int .i64 cv) (K4.out.at_ (p := w.heap.size) (t := 28) (cs := #[.int .i64 0, .int .i64 0, .int .i64 0, .int .i64 0, .int .i64 0, .int .i64 0, .int .i64 0, .bool false]) (by simp)) (K4.out.at_ (p := w.heap.size + 1) (t := 30) (cs := #[.int .i64 0, .int .i64 0]) (by simp)) (by omega) K4.out.1 (by omega) (by omega)
    rw [e9]
    clear e9
    exact bodyPost_ret (v := (.tuple #[.agg #[.int .i64 t0, .int .i64 t1, .int .i64 t2, .int .i64 t3, .int .i64 t4, .int .i64 t5, .int .i64 t6, .bool t7], .agg #[.int .i64 ct, .int .i64 cv]])) (by simp [results, Tryz.results33, go_sem, d0, d1, d2, d3, d4, d5, d6, d7, d8, d9]) rfl ⟨rfl, hb.drew⟩
end Go.Proofs.YteopplldbcgjjaaGreatDoor.Mx
namespace Go.Proofs.YteopplldbcgjjaaGreatDoor.Mx
open Go.ChangeShapes Go.WideShapes Go.ChangeAt Go.RowKit
set_option linter.unusedVariables false
namespace TK
variable {b u v : World} {L : List Box} {r q : Nat}
variable {p s g : Nat} {q' : Nat} {a0 a1 b0 b1 b2 b3 b4 b5 b6 b7 e0 e1 f0 f1 : Value}
end TK
end Go.Proofs.YteopplldbcgjjaaGreatDoor.Mx

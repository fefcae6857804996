import Derived.Test.YteopplldbcgjjaaGreatDoorH04
import Derived.Maps.OwnSet
import Derived.DeepKeys4
import Derived.MapViews
import Derived.Deep.RegionWith
import Derived.Deep.AppendLies
import Derived.Test.YteopplldbcgjjaaGreatDoorH03
import Derived.Test.YteopplldbcgjjaaGreatDoorH06
namespace Go.Proofs.YteopplldbcgjjaaGreatDoor.Mx
open Go.ChangeShapes Go.WideShapes Go.ChangeAt Go.RowKit Go.Maps
set_option linter.unusedVariables false
open Go.Lib (hid)
set_option maxHeartbeats 64000000
theorem laid : laidOutB Tryz.prog = true := by kernel_rfl
theorem triRow : (85 : TypeId) < Tryz.prog.types.size := of_decide_eq_true (by kernel_rfl)
theorem triKeyAt : Tryz.prog.keyTypeAt 3 85 = true := by kernel_rfl
set_option maxRecDepth 20000 in
theorem triWide : (match Tryz.prog.underlying 85 with | some (.array _ _) | some (.struct _) => true | _ => false) = true := by kernel_rfl
set_option maxRecDepth 20000 in
theorem triLaw : Keyed Tryz.prog 85 := Keyed.of_law (deep_law_laid laid (m := 3) (by omega) triRow triKeyAt triWide)
theorem triType : Tryz.prog.keyType 85 = true := by kernel_rfl
theorem triCells : Tryz.prog.cellsOf 85 = 3 := by kernel_rfl
theorem i64Cells : Tryz.prog.cellsOf 2 = 1 := by kernel_rfl
theorem i64Zero (w : World) : (zeroValue 2).run Tryz.prog w = .ok (.int .i64 0) w := by kernel_rfl
def tkey (a t v : Int) : Lit := .string (keyBytes [.int .i64 a, .int .i64 t, .int .i64 v])
theorem tkey_of {a t v : Int} (ha : I64 a) (ht : I64 t) (hv : I64 v) : keyOf Tryz.prog 85 (.agg #[.int .i64 a, .int .i64 t, .int .i64 v]) = some (tkey a t v) := by
 obtain ⟨m, hm⟩ : ∃ m, m + 1 = Tryz.prog.types.size := ⟨Tryz.prog.types.size - 1, Nat.sub_add_cancel (Nat.lt_of_le_of_lt (Nat.zero_le _) triRow)⟩
 have w1 : (Lit.int .i64 a).wf = true := WalkArith.wf_i64 ⟨ha.1, ha.2⟩
 have w2 : (Lit.int .i64 t).wf = true := WalkArith.wf_i64 ⟨ht.1, ht.2⟩
 have w3 : (Lit.int .i64 v).wf = true := WalkArith.wf_i64 ⟨hv.1, hv.2⟩
 unfold keyOf
 simp only [Tryz.underlying85]
 rw [triType, ← hm]
 clear hm
 simp [triCells, i64Cells, Value.formed, Tryz.underlying85, Value.cells, Program.keyLits, Tryz.underlying2, w1, w2, w3, tkey]
theorem tkey_inj {a t v a' t' v' : Int} (ha : I64 a) (ht : I64 t) (hv : I64 v) (ha' : I64 a') (ht' : I64 t') (hv' : I64 v') (h : tkey a t v = tkey a' t' v') : a = a' ∧ t = t' ∧ v = v' := by
 have := triLaw.inj (tkey_of ha ht hv) (h ▸ tkey_of ha' ht' hv')
 simpa using this
theorem tkey_lit (a t v : Int) : WideAt.IsKeyLit (tkey a t v) := trivial
abbrev Held := Int → Int → Int → Option Int
def Held.none : Held := fun _ _ _ => Option.none
def Held.put (f : Held) (a t v d : Int) : Held := fun x y z => if x = a ∧ y = t ∧ z = v then some d else f x y z
def TMap (w : World) (b n : Nat) (f : Held) : Prop :=
 ∃ D : DataW Unit, w.ownsMap Tryz.prog 85 (plainElem Tryz.prog 2) b n D ∧
   ∀ a t v, I64 a → I64 t → I64 v → Maps.has D (tkey a t v) = (f a t v).isSome ∧ D.atKey (tkey a t v) (.lit (.int .i64 0)) = .lit (.int .i64 ((f a t v).getD 0))
theorem TMap.lt {w : World} {b n : Nat} {f : Held} (h : TMap w b n f) : b < w.heap.size := let ⟨_, h, _⟩ := h; h.lt
theorem TMap.mono {w : World} {b n n' : Nat} {f : Held} (h : TMap w b n f) (hn : n ≤ n') : TMap w b n' f := let ⟨D, h, k⟩ := h; ⟨D, h.mono hn, k⟩
theorem TMap.below {w w' : World} {b n B : Nat} {f : Held} (h : TMap w b n f) (hb : Below B w w') (hB : b < B) : TMap w' b n f := by
 obtain ⟨D, ⟨es, clock, hh, r⟩, k⟩ := h
 exact ⟨D, ⟨es, clock, (hb.block b hB).trans hh, r⟩, k⟩
theorem TMap.alloc {w : World} {b n : Nat} {f : Held} (h : TMap w b n f) (o : Obj) : TMap (w.alloc o) b n f := let ⟨D, h, k⟩ := h; ⟨D, h.alloc o, k⟩
theorem TMap.drew {w : World} {b n : Nat} {f : Held} (h : TMap w b n f) : TMap w.drew b n f := h
theorem TMap.made (w : World) : TMap (w.alloc (.map #[] 0)) w.heap.size 0 Held.none :=
 ⟨.map [], World.ownsMap_made _ _ _ _, fun a t v _ _ _ => ⟨rfl, rfl⟩⟩
theorem TMap.put {w : World} {b n : Nat} {f : Held} (hown : TMap w b n f) (hn : n < maxLen) {i j k d : Int} (hi : I64 i) (hj : I64 j) (hk : I64 k) (hd : I64 d) :
    ∃ w', (Instr.mapUpdate 193 (.map (some b)) (.agg #[.int .i64 i, .int .i64 j, .int .i64 k]) (.int .i64 d)).run Tryz.prog w = .ok () w' ∧ TMap w' b (n + 1) (f.put i j k d) ∧ w.grownBy w' (some b) := by
 obtain ⟨D, h, hD⟩ := hown
 obtain ⟨w', hr, h', hg'⟩ := h.update triLaw Tryz.underlying193 hn (tkey_of hi hj hk) (plainElem_int (H := Unit) Tryz.underlying2 (WalkArith.wf_i64 ⟨hd.1, hd.2⟩))
 refine ⟨w', hr, ⟨_, h', fun a t v ha ht hv => ?_⟩, hg'⟩
 by_cases e : a = i ∧ t = j ∧ v = k
 ·obtain ⟨rfl, rfl, rfl⟩ := e
  rw [has_put_same h.isMap (tkey_lit _ _ _), atKey_put_same h.isMap (tkey_lit _ _ _)]
  simp [Held.put]
 ·have hne : tkey a t v ≠ tkey i j k := fun e' => e (tkey_inj ha ht hv hi hj hk e')
  rw [has_put_other hne, atKey_put_other hne]
  simp only [Held.put, if_neg e]
  exact hD a t v ha ht hv
theorem TMap.look {w : World} {b n : Nat} {f : Held} (hown : TMap w b n f) {i j k : Int} (hi : I64 i) (hj : I64 j) (hk : I64 k) :
    (Instr.lookup 193 (.map (some b)) (.agg #[.int .i64 i, .int .i64 j, .int .i64 k]) false).run Tryz.prog w = .ok (.int .i64 ((f i j k).getD 0)) w := by
 obtain ⟨D, h, hD⟩ := hown
 obtain ⟨c, hr, hc, _⟩ := h.lookup_int triLaw Tryz.underlying193 Tryz.underlying2 (i64Zero _) (tkey_of hi hj hk)
 rw [(hD i j k hi hj hk).2] at hc
 simp only [DataW.lit.injEq, Lit.int.injEq, true_and] at hc
 rw [hc]; exact hr
section
variable (w : World) {ops : Array Oper} {rest : List Oper} {o : Oper} {a : Act} {Q : Exit → Act → World → Prop}
theorem tm_look_ok (hg : o.guard = none) (m x : Operand) (hop : o.op = Op.lookup 193 m x true) (b n : Nat) (f : Held) (hm : a.eval m = .map (some b)) (hown : TMap w b n f)
    (i j k : Int) (hx : a.eval x = .agg #[.int .i64 i, .int .i64 j, .int .i64 k]) (hi : I64 i) (hj : I64 j) (hk : I64 k)
    (hK : wpList Tryz.prog ops Q rest (a.put o.dst (.tuple #[.int .i64 ((f i j k).getD 0), .bool (f i j k).isSome])) w) : wpList Tryz.prog ops Q (o :: rest) a w := by
 obtain ⟨D, h, hD⟩ := hown
 refine wpList_lookup_own_ok_int _ hg m x 193 hop 85 2 .i64 triLaw Tryz.underlying193 Tryz.underlying2 (i64Zero _) b n D hm h _ _ hx (tkey_of hi hj hk) ?_
 intro c hc _
 rw [(hD i j k hi hj hk).2] at hc
 simp only [DataW.lit.injEq, Lit.int.injEq, true_and] at hc
 rw [← hc, (hD i j k hi hj hk).1]; exact hK
end
abbrev Tri := Int × Int × Int
def Tris (w : World) (B : Nat) (A : Option Addr) (L : List Tri) : Prop :=
 ∀ i, i < L.length → ∃ b off, A = some ⟨b, off, none⟩ ∧ b < B ∧ w.cell? ⟨b, off + i * 3, none⟩ = some (.int .i64 (L.getD i (0, 0, 0)).1) ∧ w.cell? ⟨b, off + i * 3 + 1, none⟩ = some (.int .i64 (L.getD i (0, 0, 0)).2.1) ∧ w.cell? ⟨b, off + i * 3 + 2, none⟩ = some (.int .i64 (L.getD i (0, 0, 0)).2.2)
def TriI (L : List Tri) : Prop := ∀ i, i < L.length → I64 (L.getD i (0, 0, 0)).1 ∧ I64 (L.getD i (0, 0, 0)).2.1 ∧ I64 (L.getD i (0, 0, 0)).2.2
theorem Tris.below {w w' : World} {B B' : Nat} {A : Option Addr} {L : List Tri} (h : Tris w B A L) (hb : Below B' w w') (hB : B ≤ B') : Tris w' B A L := by
 intro i hi
 obtain ⟨b, off, rfl, hlt, c0, c1, c2⟩ := h i hi
 have f := fun o => hb.cell (p := ⟨b, o, none⟩) (Nat.lt_of_lt_of_le hlt hB)
 exact ⟨b, off, rfl, hlt, (f _).trans c0, (f _).trans c1, (f _).trans c2⟩
theorem getD_mem {L : List Tri} {k : Nat} (h : k < L.length) : L.getD k (0, 0, 0) ∈ L := by
 rw [List.getD_eq_getElem?_getD, List.getElem?_eq_getElem h]; exact List.getElem_mem h
noncomputable def tagsHeld (key : Int) (L : List Tri) : Held := fun a t v => if (a, t, v) ∈ L then some (tagOf key a t v) else Option.none
theorem tagsHeld_nil (key : Int) : tagsHeld key [] = Held.none := by funext a t v; simp [tagsHeld, Held.none]
theorem tagsHeld_snoc (key : Int) (L : List Tri) (a t v : Int) : tagsHeld key (L ++ [(a, t, v)]) = (tagsHeld key L).put a t v (tagOf key a t v) := by
 funext x y z
 by_cases e : x = a ∧ y = t ∧ z = v
 ·obtain ⟨rfl, rfl, rfl⟩ := e; simp [tagsHeld, Held.put]
 ·simp [tagsHeld, Held.put, e]
theorem tagsHeld_there (key : Int) (L : List Tri) (a t v : Int) (h : (a, t, v) ∈ L) : tagsHeld key (L ++ [(a, t, v)]) = tagsHeld key L := by
 funext x y z
 by_cases e : x = a ∧ y = t ∧ z = v
 ·obtain ⟨rfl, rfl, rfl⟩ := e; simp [tagsHeld, h]
 ·simp [tagsHeld, e]
theorem take_snoc {L : List Tri} {k : Nat} (h : k < L.length) : L.take (k + 1) = L.take k ++ [L.getD k (0, 0, 0)] := by
 rw [List.take_succ_eq_append_getElem h, List.getD_eq_getElem?_getD, List.getElem?_eq_getElem h]; rfl
theorem i64_tag (key a t v : Int) : I64 (tagOf key a t v) := by have := tagOf_bd key a t v; exact ⟨by omega, by omega⟩
theorem tagsOf_calls (key : Int) (A : Option Addr) (L : List Tri) (cap : Nat) (w : World) (hn : L.length < maxLen) (hA : Tris w w.heap.size A L) (hI : TriI L) :
    Calls Tryz.prog 143 (pA key A L.length cap) w fun e w' => e = .returned (.map (some w.heap.size)) ∧ TMap w' w.heap.size L.length (tagsHeld key L) ∧ Below w.heap.size w w' := by
 have hm := hn
 unfold maxLen at hm
 have hmm := @run_makeMap Tryz.prog
 have HA := hid hA
 have HI := hid hI
 have HN := hid hn
 clear hA hI hn
 go_enter Tryz.func143, Tryz.ntmps143
 go_wp2_with fail
 clear hmm
 go_loopw [13] (fun i wr => ∃ k : Nat, k ≤ L.length ∧ i = .int .i64 k ∧ Below w.heap.size w wr ∧ TMap wr w.heap.size k (tagsHeld key (L.take k))) (fun i _ => L.length - (intOf i).toNat)
 case atStart => exact ⟨0, Nat.zero_le _, rfl, (Below.refl _ _).alloc (Nat.le_refl _) _, by rw [List.take_zero, tagsHeld_nil]; exact TMap.made w⟩
 case round =>
  obtain ⟨k, hk, rfl, hbel, hmap⟩ := hrel
  have HB := hid hbel
  have HM := hid hmap
  have hAr := HA.out.below hbel (Nat.le_refl _)
  clear hbel hmap
  by_cases hlt : k < L.length
  ·obtain ⟨b, off, rfl, hb, c0, c1, c2⟩ := hAr k hlt
   have hlt' : (k : Int) < L.length := by omega
   have hk0 : (0 : Int) ≤ k := by omega
   have HS := hid (take_snoc hlt)
   have HT := hid (HI.out k hlt)
   clear hAr
   generalize L.getD k (0, 0, 0) = T at c0 c1 c2 HS HT
   obtain ⟨a, t, v⟩ := T
   simp only at c0 c1 c2
   have I1 := HT.out.1
   have I2 := HT.out.2.1
   have I3 := HT.out.2.2
   simp only at I1 I2 I3
   have J1 := hid I1
   have J2 := hid I2
   have J3 := hid I3
   clear I1 I2 I3 HT
   have HC := hid (fun w => tagged_calls key a t v w)
   have HK := hid (i64_tag key a t v)
   by_cases hin : (a, t, v) ∈ L.take k
   ·have hs : (tagsHeld key (L.take k) a t v).isSome = true := by simp [tagsHeld, hin]
    have HQ := hid hs
    have HE := hid (tagsHeld_there key (L.take k) a t v hin)
    clear hs hin
    go_wp2_with (at_lookup; refine tm_look_ok _ rfl _ _ rfl w.heap.size k (tagsHeld key (L.take k)) rfl (HM.out.alloc _) a t v rfl J1.out J2.out J3.out ?_; rw [HQ.out])
    go_roundw
    case rel => exact ⟨k + 1, by omega, by go_num, HB.out.alloc HB.out.size _, by rw [HS.out, HE.out]; exact (HM.out.alloc _).mono (by omega)⟩
    case measure => simp [intOf]; omega
   ·have hs : (tagsHeld key (L.take k) a t v).isSome = false := by simp [tagsHeld, hin]
    have HQ := hid hs
    have HE := hid (tagsHeld_snoc key (L.take k) a t v)
    clear hs hin
    generalize tagOf key a t v = d at HC HK HE
    go_wp2_with (at_lookup; refine tm_look_ok _ rfl _ _ rfl w.heap.size k (tagsHeld key (L.take k)) rfl (HM.out.alloc _) a t v rfl J1.out J2.out J3.out ?_; rw [HQ.out])
    go_region_with (go_at_call 154; refine (HC.out _).mono ?_; rintro e wx ⟨rfl, bx⟩; go_loud (have hx : TMap wx w.heap.size k (tagsHeld key (L.take k)) := TMap.below (TMap.drew (HM.out.alloc _)) bx (Nat.lt_of_lt_of_le HM.out.lt (by simp [World.drew]))); obtain ⟨w2, hrun, hm2, hg2⟩ := hx.put (by unfold maxLen; omega) J1.out J2.out J3.out HK.out; have hcx := (CellsAt.new wr 85 #[.int .i64 a, .int .i64 t, .int .i64 v]).drew.below bx (by simp [World.drew]); have d0 : wx.cell? ⟨wr.heap.size, 0, none⟩ = some (.int .i64 a) := hcx.cell 0; have d1 : wx.cell? ⟨wr.heap.size, 1, none⟩ = some (.int .i64 t) := hcx.cell 1; have d2 : wx.cell? ⟨wr.heap.size, 2, none⟩ = some (.int .i64 v) := hcx.cell 2; clear hcx; have BX := hid bx; have M2 := hid hm2; have G2 := hid hg2; clear bx hx hm2 hg2)
    all_goals
     go_wp2_with fail
     go_roundw
     case rel =>
      refine ⟨k + 1, by omega, by go_num, ?_, by rw [HS.out, HE.out]; exact M2.out⟩
      exact bgb ((HB.out.alloc HB.out.size _).drew.trans (BX.out.mono (show w.heap.size ≤ _ from Nat.le_trans HB.out.size (by simp [World.drew])))) G2.out (Nat.le_trans HB.out.size (Nat.le_trans (by simp [World.drew]) BX.out.size)) (Nat.le_refl _)
     case measure => simp [intOf]; omega
  ·have hk' : k = L.length := by omega
   clear hAr
   have HQ := hid (show L.take k = L by rw [hk', List.take_length])
   have HK := hid hk'
   clear hk'
   go_wp2_with fail
   go_ret
   exact ⟨rfl, by have := HM.out; rw [HQ.out] at this; exact this.mono hk, HB.out⟩
def OneTag (key a t v : Int) (u : World) (e : Ending) (w' : World) : Prop :=
 ∃ m, e = .returned (.map (some m)) ∧ TMap w' m 1 (tagsHeld key [(a, t, v)]) ∧ Below u.heap.size u w'
theorem tagsOf_one (key a t v : Int) (g : Nat) (u : World) (hb : CellsAt u g 85 #[.int .i64 a, .int .i64 t, .int .i64 v]) (ha : I64 a) (ht : I64 t) (hv : I64 v) :
    Calls Tryz.prog 143 (pA key (some ⟨g, 0, none⟩) 1 1) u (OneTag key a t v u) := by
 refine (tagsOf_calls key (some ⟨g, 0, none⟩) [(a, t, v)] 1 u (by simp [maxLen])
  (fun i hi => by
   obtain rfl : i = 0 := by simp at hi; omega
   exact ⟨_, 0, rfl, hb.lt, hb.cell 0, hb.cell 1, hb.cell 2⟩)
  (fun i hi => by
   obtain rfl : i = 0 := by simp at hi; omega
   exact ⟨ha, ht, hv⟩)).mono ?_
 rintro e w' ⟨rfl, hm, h⟩
 exact ⟨_, rfl, hm, h⟩
def OneTagB (key a t v : Int) (w : World) (e : Ending) (w' : World) : Prop :=
 ∃ m, e = .returned (.map (some m)) ∧ (Instr.lookup 193 (.map (some m)) (.agg #[.int .i64 a, .int .i64 t, .int .i64 v]) false).run Tryz.prog w' = .ok (.int .i64 (tagOf key a t v)) w' ∧
   w'.cell? ⟨w.heap.size, 0, none⟩ = some (.int .i64 a) ∧ w'.cell? ⟨w.heap.size, 1, none⟩ = some (.int .i64 t) ∧ w'.cell? ⟨w.heap.size, 2, none⟩ = some (.int .i64 v) ∧ Below w.heap.size w w'
theorem tagsOf_boxed (key a t v : Int) (w : World) (ha : I64 a) (ht : I64 t) (hv : I64 v) :
    Calls Tryz.prog 143 (pA key (some ⟨w.heap.size + 1, 0, none⟩) 1 1)
     ((w.alloc (.cells #[.int .i64 a, .int .i64 t, .int .i64 v] 85)).alloc (.cells #[.int .i64 a, .int .i64 t, .int .i64 v] 85)).drew (OneTagB key a t v w) := by
 have h0 := CellsAt.new w 85 #[.int .i64 a, .int .i64 t, .int .i64 v]
 have h1 := CellsAt.new (w.alloc (.cells #[.int .i64 a, .int .i64 t, .int .i64 v] 85)) 85 #[.int .i64 a, .int .i64 t, .int .i64 v]
 rw [show (w.alloc (.cells #[.int .i64 a, .int .i64 t, .int .i64 v] 85)).heap.size = w.heap.size + 1 by simp] at h1
 refine (tagsOf_one key a t v _ _ h1.drew ha ht hv).mono ?_
 rintro e w' ⟨m, rfl, hm, hb⟩
 have hr := hm.look ha ht hv
 rw [show (tagsHeld key [(a, t, v)] a t v).getD 0 = tagOf key a t v by simp [tagsHeld]] at hr
 have h2 := (h0.below ((Below.refl (w.heap.size + 1) _).alloc (by simp) _) (by omega)).drew.below hb (by simp [World.drew]; omega)
 exact ⟨m, rfl, hr, h2.cell 0, h2.cell 1, h2.cell 2, ((((Below.refl w.heap.size w).alloc (Nat.le_refl _) _).alloc (by simp) _).drew).trans (hb.mono (by simp [World.drew]; omega))⟩
theorem tag_calls (key a t v : Int) (w : World) (ha : I64 a) (ht : I64 t) (hv : I64 v) :
    Calls Tryz.prog 114 #[.int .i64 key, .agg #[.int .i64 a, .int .i64 t, .int .i64 v]] w fun e w' => e = .returned (.int .i64 (tagOf key a t v)) ∧ Below w.heap.size w w' := by
 have HC := hid (tagsOf_boxed key a t v w ha ht hv)
 unfold OneTagB at HC
 generalize tagOf key a t v = d at HC
 clear ha ht hv
 go_enter Tryz.func114, Tryz.ntmps114
 go_wp2_with fail
 go_region_with (go_at_call 143; refine HC.out.mono ?_; rintro e wx ⟨m, rfl, hrun, d0, d1, d2, bx⟩; have BX := hid bx; clear bx)
 all_goals
  go_wp2_with fail
  go_ret
  exact ⟨rfl, BX.out⟩
open Go.ChangeShapes Go.WideShapes Go.ChangeAt Go.RowKit
theorem info_tri3 : (Tryz.prog.info? 85).map (fun i => (i.zero, i.size, i.bytes)) = some (some (.agg #[.int .i64 0, .int .i64 0, .int .i64 0]), 3, 24) := by kernel_rfl
theorem info_parts3 : ∃ i, Tryz.prog.info? 85 = some i ∧ i.zero = some (.agg #[.int .i64 0, .int .i64 0, .int .i64 0]) ∧ i.size = 3 ∧ i.bytes = 24 := by
 obtain ⟨i, hi, hzz⟩ := Option.map_eq_some_iff.1 info_tri3
 simp only [Prod.mk.injEq] at hzz
 exact ⟨i, hi, hzz⟩
def TriM (L : List Tri) : Prop := ∀ T ∈ L, I64 T.1 ∧ I64 T.2.1 ∧ I64 T.2.2
theorem TriM.nil : TriM [] := fun T h => by cases h
theorem TriM.snoc {L : List Tri} {a t v : Int} (h : TriM L) (ha : I64 a) (ht : I64 t) (hv : I64 v) : TriM (L ++ [(a, t, v)]) := by
 intro T hT
 rcases List.mem_append.1 hT with h1 | h1
 ·exact h T h1
 ·rw [List.mem_singleton] at h1; subst h1; exact ⟨ha, ht, hv⟩
def flatT (L : List Tri) : List Value := L.flatMap fun T => [.int .i64 T.1, .int .i64 T.2.1, .int .i64 T.2.2]
theorem flatT_snoc (L : List Tri) (a t v : Int) : flatT (L ++ [(a, t, v)]) = flatT L ++ [.int .i64 a, .int .i64 t, .int .i64 v] := by simp [flatT]
theorem flatT_get (L : List Tri) (i j : Nat) (hi : i < L.length) (hj : j < 3) : (flatT L)[i * 3 + j]? = some (.int .i64 (if j = 0 then (L.getD i (0, 0, 0)).1 else if j = 1 then (L.getD i (0, 0, 0)).2.1 else (L.getD i (0, 0, 0)).2.2)) := by
 induction L generalizing i with
 | nil => simp at hi
 | cons T L ih =>
   have hc : flatT (T :: L) = .int .i64 T.1 :: .int .i64 T.2.1 :: .int .i64 T.2.2 :: flatT L := rfl
   rw [hc]
   cases i with
   | zero =>
     have h3 : j = 0 ∨ j = 1 ∨ j = 2 := by omega
     rcases h3 with rfl | rfl | rfl <;> simp
   | succ i =>
     rw [show (i + 1) * 3 + j = (i * 3 + j) + 1 + 1 + 1 by omega]
     simp only [List.getElem?_cons_succ]
     rw [ih i (by simpa using hi)]
     simp
def TRow (w : World) (base : Nat) (v : Value) (L : List Tri) : Prop := w.ownsRow base 85 3 v L.length (flatT L) ∧ TriM L
theorem TRow.alloc {w : World} {base : Nat} {v : Value} {L : List Tri} (h : TRow w base v L) (o : Obj) : TRow (w.alloc o) base v L := ⟨h.1.alloc o, h.2⟩
theorem TRow.snoc {w' : World} {base : Nat} {v : Value} {L : List Tri} {a t z : Int} (h : TriM L) (ha : I64 a) (ht : I64 t) (hz : I64 z)
    (hw : w'.ownsRow base 85 3 v (L.length + 1) (flatT L ++ [.int .i64 a, .int .i64 t, .int .i64 z])) : TRow w' base v (L ++ [(a, t, z)]) := by
 refine ⟨?_, h.snoc ha ht hz⟩
 rw [List.length_append, flatT_snoc]
 exact hw
theorem TRow.made (w : World) (base : Nat) (h : base ≤ w.heap.size) : TRow (w.alloc (.cells #[] 85)) base (.slice (some ⟨w.heap.size, 0, none⟩) 0 0) [] :=
 ⟨World.ownsRow_made w #[] 0 h (by simp [maxLen]) rfl, TriM.nil⟩
def Lies (w : World) (lo hi : Nat) (A : Option Addr) (L : List Tri) : Prop :=
 ∀ i, i < L.length → ∃ b off, A = some ⟨b, off, none⟩ ∧ lo ≤ b ∧ b < hi ∧ w.cell? ⟨b, off + i * 3, none⟩ = some (.int .i64 (L.getD i (0, 0, 0)).1) ∧ w.cell? ⟨b, off + i * 3 + 1, none⟩ = some (.int .i64 (L.getD i (0, 0, 0)).2.1) ∧ w.cell? ⟨b, off + i * 3 + 2, none⟩ = some (.int .i64 (L.getD i (0, 0, 0)).2.2)
theorem Lies.tris {w : World} {lo hi : Nat} {A : Option Addr} {L : List Tri} (h : Lies w lo hi A L) : Tris w hi A L := by
 intro i hi
 obtain ⟨b, off, e, _, h1, c⟩ := h i hi
 exact ⟨b, off, e, h1, c⟩
theorem TRow.lies {w : World} {base : Nat} {v : Value} {L : List Tri} (h : TRow w base v L) : ∃ A c, v = .slice A L.length c ∧ Lies w base w.heap.size A L := by
 rcases h.1.2 with ⟨rfl, hn⟩ | ⟨g, cap, cur, rfl, hb, hg, hnc, hcm, hcs, htake⟩
 ·have : L = [] := List.length_eq_zero_iff.1 hn
  subst this
  exact ⟨none, 0, rfl, fun i hi => by simp at hi⟩
 ·refine ⟨_, cap, rfl, fun i hi => ⟨g, 0, rfl, hb, (Array.getElem?_eq_some_iff.1 hg).1, ?_, ?_, ?_⟩⟩
  ·rw [Nat.zero_add, h.1.cellAt (i * 3) (by omega), show i * 3 = i * 3 + 0 from rfl, flatT_get L i 0 hi (by omega)]; rfl
  ·rw [Nat.zero_add, h.1.cellAt (i * 3 + 1) (by omega), flatT_get L i 1 hi (by omega)]; rfl
  ·rw [Nat.zero_add, h.1.cellAt (i * 3 + 2) (by omega), flatT_get L i 2 hi (by omega)]; rfl
abbrev Ce := Int × Int
theorem info_ce : (Tryz.prog.info? 30).map (fun i => (i.zero, i.size, i.bytes)) = some (some (.agg zC), 2, 16) := by kernel_rfl
theorem info_parts2 : ∃ i, Tryz.prog.info? 30 = some i ∧ i.zero = some (.agg zC) ∧ i.size = 2 ∧ i.bytes = 16 := by
 obtain ⟨i, hi, hzz⟩ := Option.map_eq_some_iff.1 info_ce
 simp only [Prod.mk.injEq] at hzz
 exact ⟨i, hi, hzz⟩
def flatC (L : List Ce) : List Value := L.flatMap fun T => [.int .i64 T.1, .int .i64 T.2]
theorem flatC_snoc (L : List Ce) (t v : Int) : flatC (L ++ [(t, v)]) = flatC L ++ [.int .i64 t, .int .i64 v] := by simp [flatC]
theorem flatC_get (L : List Ce) (i j : Nat) (hi : i < L.length) (hj : j < 2) : (flatC L)[i * 2 + j]? = some (.int .i64 (if j = 0 then (L.getD i (0, 0)).1 else (L.getD i (0, 0)).2)) := by
 induction L generalizing i with
 | nil => simp at hi
 | cons T L ih =>
   have hc : flatC (T :: L) = .int .i64 T.1 :: .int .i64 T.2 :: flatC L := rfl
   rw [hc]
   cases i with
   | zero =>
     have h2 : j = 0 ∨ j = 1 := by omega
     rcases h2 with rfl | rfl <;> simp
   | succ i =>
     rw [show (i + 1) * 2 + j = (i * 2 + j) + 1 + 1 by omega]
     simp only [List.getElem?_cons_succ]
     rw [ih i (by simpa using hi)]
     simp
def CRow (w : World) (base : Nat) (v : Value) (L : List Ce) : Prop := w.ownsRow base 30 2 v L.length (flatC L)
theorem CRow.kept {w w' : World} {base : Nat} {r : Option Nat} {v : Value} {L : List Ce} (h : CRow w base v L) (hg : w.grownBy w' r) (hb : v.ownBlock = none ∨ v.ownBlock ≠ r) : CRow w' base v L := World.ownsRow.kept h hg hb
theorem CRow.grown {w w' : World} {base g : Nat} {v : Value} {L : List Ce} (h : CRow w base v L) (hg : w.grownBy w' (some g)) (hb : g < base) : CRow w' base v L := by
 refine World.ownsRow.kept h hg ?_
 cases e : v.ownBlock with
 | none => exact .inl rfl
 | some k => exact .inr (by intro e2; injection e2 with e2; have := (World.ownsRow.lt h k e).1; omega)
theorem CRow.alloc {w : World} {base : Nat} {v : Value} {L : List Ce} (h : CRow w base v L) (o : Obj) : CRow (w.alloc o) base v L := World.ownsRow.alloc h o
theorem CRow.below {w w' : World} {base : Nat} {v : Value} {L : List Ce} (h : CRow w base v L) (hb : Below w.heap.size w w') : CRow w' base v L :=
 h.kept (below_gb hb none) (by cases e : v.ownBlock with | none => exact .inl rfl | some k => exact .inr (by intro e2; cases e2))
theorem CRow.snoc {w' : World} {base : Nat} {v : Value} {L : List Ce} {t z : Int} (hw : w'.ownsRow base 30 2 v (L.length + 1) (flatC L ++ [.int .i64 t, .int .i64 z])) : CRow w' base v (L ++ [(t, z)]) := by
 unfold CRow
 rw [List.length_append, flatC_snoc]
 exact hw
theorem CRow.made (w : World) (base : Nat) (h : base ≤ w.heap.size) : CRow (w.alloc (.cells #[] 30)) base (.slice (some ⟨w.heap.size, 0, none⟩) 0 0) [] := World.ownsRow_made w #[] 0 h (by simp [maxLen]) rfl
theorem CRow.mono {w : World} {base base' : Nat} {v : Value} {L : List Ce} (h : CRow w base v L) (hb : base' ≤ base) : CRow w base' v L := by
 refine ⟨h.1, ?_⟩
 rcases h.2 with h0 | ⟨g, cap, cur, e, hg, r⟩
 ·exact .inl h0
 ·exact .inr ⟨g, cap, cur, e, Nat.le_trans hb hg, r⟩
theorem TRow.below {w w' : World} {base : Nat} {v : Value} {L : List Tri} (h : TRow w base v L) (hb : Below w.heap.size w w') : TRow w' base v L :=
 ⟨h.1.kept (below_gb hb none) (by cases e : v.ownBlock with | none => exact .inl rfl | some k => exact .inr (by intro e2; cases e2)), h.2⟩
instance : Inhabited Tru := ⟨⟨0, 0, 0, 0, 0, 0, 0, false⟩⟩
def truV (t : Tru) : List Value := [.int .i64 t.clock, .int .i64 t.epoch, .int .i64 t.cursor, .int .i64 t.read, .int .i64 t.written, .int .i64 t.nread, .int .i64 t.nwritten, .bool t.failed]
theorem truV_len (t : Tru) : (truV t).length = 8 := rfl
def ceV (c : Ce) : List Value := [.int .i64 c.1, .int .i64 c.2]
theorem ceV_len (c : Ce) : (ceV c).length = 2 := rfl
abbrev Trs (w : World) (B : Nat) (A : Option Addr) (L : List Tru) : Prop := Sls truV 8 w B A L
abbrev Cls (w : World) (B : Nat) (A : Option Addr) (L : List Ce) : Prop := Sls ceV 2 w B A L
abbrev TrRow (w : World) (base : Nat) (v : Value) (L : List Tru) : Prop := SRow truV 8 28 w base v L
abbrev ClRow (w : World) (base : Nat) (v : Value) (L : List Ce) : Prop := SRow ceV 2 30 w base v L
theorem info_tru : (Tryz.prog.info? 28).map (fun i => (i.zero, i.size, i.bytes)) = some (some (.agg zT), 8, 64) := by kernel_rfl
theorem info_cel : (Tryz.prog.info? 30).map (fun i => (i.zero, i.size, i.bytes)) = some (some (.agg zC), 2, 16) := by kernel_rfl
theorem truV_one (L : List Tru) : ∀ u ∈ flatS truV L, u.oneCell' = true := by
 intro u hu
 unfold flatS at hu
 obtain ⟨t, _, h⟩ := List.mem_flatMap.1 hu
 simp [truV] at h
 rcases h with rfl | rfl | rfl | rfl | rfl | rfl | rfl | rfl <;> rfl
theorem ceV_one (L : List Ce) : ∀ u ∈ flatS ceV L, u.oneCell' = true := by
 intro u hu
 unfold flatS at hu
 obtain ⟨t, _, h⟩ := List.mem_flatMap.1 hu
 simp [ceV] at h
 rcases h with rfl | rfl <;> rfl
def NewTr (b : World) (L : List Tru) (e : Ending) (w' : World) : Prop := ∃ v, e = .returned v ∧ TrRow w' b.heap.size v L ∧ Below b.heap.size b w'
theorem l10Copy_calls (A : Option Addr) (L : List Tru) (cap : Nat) (w : World) (hn : L.length ≤ 1048576) (hA : Trs w w.heap.size A L) :
    Calls Tryz.prog 150 #[.slice A L.length cap] w (NewTr w L) := by
 have HB := hid ((Below.refl w.heap.size w).alloc (Nat.le_refl _) (.cells #[] 28))
 have HA := hid ((hA.grow HB.out).news truV_len (by omega))
 have HR := hid (SRow.made (enc := truV) (n := 8) (T := 28) w (Nat.le_refl _))
 have hl : (flatS truV L).length = L.length * 8 := flatS_length truV_len
 have h1 := truV_one L
 clear hA
 go_enter Tryz.func150, Tryz.ntmps150
 go_wp2_with (at_builtin; refine wpList_append_row rfl _ _ 111 rfl w.heap.size 28 8 64 0 (.agg zT) (.slice (some ⟨w.heap.size, 0, none⟩) 0 0) [] A L.length cap (flatS truV L) Tryz.underlying111 info_tru rfl (by omega) rfl HR.out rfl hl HA.out h1 (by unfold maxLen; omega) (by omega) (by simp) ?_)
 intro v' w' hown hg _
 have hb : Below w.heap.size w w' := bgb HB.out (g := w.heap.size) (by simpa [Value.ownBlock] using hg) (by simp) (Nat.le_refl _)
 go_wp2_with fail
 go_ret
 exact ⟨_, rfl, hown, hb⟩
theorem IsRegion.up {l : List Int} {x r : Int} (h : IsRegion l x r) (hr : 0 ≤ r) : ∃ i : Nat, r = i ∧ i < l.length ∧ upTo l i ≤ x ∧ x < upTo l (i + 1) := by
 rcases h with ⟨i, hi, rfl, h0, h1⟩ | ⟨rfl, _⟩
 ·exact ⟨i, rfl, hi, h0, h1⟩
 ·omega
theorem regionOf_up {key x : Int} {l : List Int} (h : 0 ≤ regionOf key l x) : ∃ i : Nat, regionOf key l x = i ∧ i < l.length ∧ planOk key l ∧ 0 ≤ x ∧ upTo l i ≤ x ∧ x < upTo l (i + 1) := by
 by_cases hp : planOk key l ∧ 0 ≤ x
 ·have hr : IsRegion l x (regionOf key l x) := by
    unfold regionOf; rw [if_pos hp]
    exact regionFrom_is l.length 0 (by omega) (by rw [upTo_zero]; exact hp.2)
  obtain ⟨i, e, hi, h0, h1⟩ := hr.up h
  exact ⟨i, e, hi, hp.1, hp.2, h0, h1⟩
 ·rw [regionOf_no hp] at h; omega
noncomputable def behindB (key : Int) (l : List Int) (cursor x : Int) : Bool := decide (0 ≤ regionOf key l x) && decide (x - firstOf key l (regionOf key l x) < cursor)
set_option maxRecDepth 20000 in
theorem specBehind_calls (key x : Int) (A : Option Addr) (l : List Int) (cap : Nat) (t0 t1 t2 t3 t4 t5 t6 : Int) (t7 : Bool) (w : World) (hn : l.length ≤ maxLen) (hcap : l.length ≤ cap) (hA : Ints w .i64 w.heap.size A l) (hx : I64 x) :
    Calls Tryz.prog 46 #[.agg (pA key A l.length cap), .agg (tA t0 t1 t2 t3 t4 t5 t6 t7), .int .i64 x] w fun e w' => e = .returned (.bool (behindB key l t2 x)) ∧ Below w.heap.size w w' := by
 have k0 := ((Kept.refl w).new 26 (pA key A l.length cap)).new 28 (tA t0 t1 t2 t3 t4 t5 t6 t7)
 rw [show (w.alloc (.cells (pA key A l.length cap) 26)).heap.size = w.heap.size + 1 by simp] at k0
 have R := hid (fun (u : World) (hb : Below w.heap.size w u) => specRegion_calls key x A l cap u hn hcap ((hA.below hb (Nat.le_refl _)).more hb.size))
 have F := hid (fun (u : World) (r : Int) (hb : Below w.heap.size w u) => specFirst_calls key r A l cap u hn hcap ((hA.below hb (Nat.le_refl _)).more hb.size))
 have K0 := hid k0
 clear hA hn k0
 unfold behindB
 by_cases hr : 0 ≤ regionOf key l x
 ·obtain ⟨i, e, hi, hp, hx0, hu0, hu1⟩ := regionOf_up hr
  have hb := upTo_bd hp.2.2.1 (show i ≤ l.length by omega)
  rw [e] at R ⊢
  rw [firstOf_yes hp hi]
  have FI := hid (fun u hb => F.out u i hb)
  rw [firstOf_yes hp hi] at FI
  have hx1 := hx.2
  have hi0 : (0 : Int) ≤ i := by omega
  have hwr : IntKind.i64.wrap (x - upTo l i) = x - upTo l i := IntWalk.i64_in _ (by omega)
  rw [decide_eq_true hi0, Bool.true_and]
  generalize upTo l i = f at FI hwr
  clear hr e hp hu0 hu1 hb F hx hx0 hx1
  go_enter Tryz.func46, Tryz.ntmps46
  go_wp2_with fail
  refine (R.out _ K0.out.1).mono ?_; rintro e w1 ⟨rfl, b1⟩
  have k1 := (K0.out.below b1).drew
  have P1 := hid (fun (u : World) (h : Kept w [(w.heap.size + 1, 28, (tA t0 t1 t2 t3 t4 t5 t6 t7)), (w.heap.size, 26, (pA key A l.length cap))] u) => (FI.out u h.1).mono (fun e w' ⟨he, hb⟩ => (⟨he, h.below hb⟩ : _ ∧ Kept w [(w.heap.size + 1, 28, (tA t0 t1 t2 t3 t4 t5 t6 t7)), (w.heap.size, 26, (pA key A l.length cap))] w')))
  clear b1 R FI K0
  go_upto_region 2 with fail
  refine wp_region_class (C := fun u => Kept w [(w.heap.size + 1, 28, (tA t0 t1 t2 t3 t4 t5 t6 t7)), (w.heap.size, 26, (pA key A l.length cap))] u) (by kernel_rfl) (by kernel_rfl) k1 ?_
  iterate 13 (first
   | go_big_quiet_skip
   | (go_big_quiet_want
      go_big_quiet_op
      first
       | go_big_quiet_on
       | (apply Exists.intro
          refine ⟨fun u hu => ?_, ?_⟩
          ·first
             | with_reducible rfl
             | (go_at_call 57; exact P1.out u hu)
             | (have e0 := hu.cell (p := w.heap.size) (t := 26) (cs := (pA key A l.length cap)) (by simp) 0; have e1 := hu.cell (p := w.heap.size) (t := 26) (cs := (pA key A l.length cap)) (by simp) 1; have e2 := hu.cell (p := w.heap.size + 1) (t := 28) (cs := (tA t0 t1 t2 t3 t4 t5 t6 t7)) (by simp) 2; simp only [List.getElem?_toArray, List.getElem?_cons_zero, List.getElem?_cons_succ] at e0 e1 e2; go_simp; first | done | with_reducible rfl)
          go_big_quiet_on)))
  refine wpQuiet_nil ?_
  intro wz hz
  go_wp2_with fail
  go_ret
  exact ⟨rfl, hz.1⟩
 ·have hr' : regionOf key l x < 0 := by omega
  have hr2 : (regionOf key l x : Int) ≤ -1 := by omega
  have hd : decide (0 ≤ regionOf key l x) = false := decide_eq_false hr
  rw [hd, Bool.false_and]
  generalize regionOf key l x = r at R hd hr'
  clear hr hr2 hr' F
  go_enter Tryz.func46, Tryz.ntmps46
  go_wp2_with fail
  refine (R.out _ K0.out.1).mono ?_; rintro e w1 ⟨rfl, b1⟩
  have k1 := (K0.out.below b1).drew
  clear b1 R K0
  go_upto_region 2 with fail
  refine wp_region_class (C := fun u => Kept w [(w.heap.size + 1, 28, (tA t0 t1 t2 t3 t4 t5 t6 t7)), (w.heap.size, 26, (pA key A l.length cap))] u) (by kernel_rfl) (by kernel_rfl) k1 ?_
  iterate 13 (first
   | go_big_quiet_skip
   | (go_big_quiet_want
      go_big_quiet_op
      first
       | go_big_quiet_on
       | (apply Exists.intro
          refine ⟨fun u hu => ?_, ?_⟩
          ·first
             | with_reducible rfl
             | (have e0 := hu.cell (p := w.heap.size) (t := 26) (cs := (pA key A l.length cap)) (by simp) 0; have e1 := hu.cell (p := w.heap.size) (t := 26) (cs := (pA key A l.length cap)) (by simp) 1; have e2 := hu.cell (p := w.heap.size + 1) (t := 28) (cs := (tA t0 t1 t2 t3 t4 t5 t6 t7)) (by simp) 2; simp only [List.getElem?_toArray, List.getElem?_cons_zero, List.getElem?_cons_succ] at e0 e1 e2; go_simp; first | done | with_reducible rfl)
          go_big_quiet_on)))
  refine wpQuiet_nil ?_
  intro wz hz
  go_wp2_with fail
  go_ret
  exact ⟨rfl, hz.1⟩
def TruAt (w : World) (b off : Nat) (t : Tru) : Prop :=
 w.cell? ⟨b, off, none⟩ = some (.int .i64 t.clock) ∧ w.cell? ⟨b, off + 1, none⟩ = some (.int .i64 t.epoch) ∧ w.cell? ⟨b, off + 2, none⟩ = some (.int .i64 t.cursor) ∧ w.cell? ⟨b, off + 3, none⟩ = some (.int .i64 t.read) ∧
 w.cell? ⟨b, off + 4, none⟩ = some (.int .i64 t.written) ∧ w.cell? ⟨b, off + 5, none⟩ = some (.int .i64 t.nread) ∧ w.cell? ⟨b, off + 6, none⟩ = some (.int .i64 t.nwritten) ∧ w.cell? ⟨b, off + 7, none⟩ = some (.bool t.failed)
theorem TruAt.below {w u : World} {B b off : Nat} {t : Tru} (h : TruAt w b off t) (hb : Below B w u) (hlt : b < B) : TruAt u b off t := by
 obtain ⟨c0, c1, c2, c3, c4, c5, c6, c7⟩ := h
 have f := fun o => hb.cell (p := ⟨b, o, none⟩) hlt
 exact ⟨(f _).trans c0, (f _).trans c1, (f _).trans c2, (f _).trans c3, (f _).trans c4, (f _).trans c5, (f _).trans c6, (f _).trans c7⟩
theorem Trs.at_ {w : World} {B : Nat} {A : Option Addr} {L : List Tru} {k : Nat} (h : Trs w B A L) (hk : k < L.length) : ∃ b off, A = some ⟨b, off, none⟩ ∧ b < B ∧ TruAt w b (off + k * 8) (L.getD k default) := by
 obtain ⟨b, off, e, hb, hc⟩ := h k hk
 exact ⟨b, off, e, hb, hc 0 (by omega), hc 1 (by omega), hc 2 (by omega), hc 3 (by omega), hc 4 (by omega), hc 5 (by omega), hc 6 (by omega), hc 7 (by omega)⟩
def trustsOk (key : Int) (l : List Int) (L : List Tru) : Prop := planOk key l ∧ L.length = l.length ∧ ∀ i, i < L.length → trustOk key l i (L.getD i default)
open Classical in
noncomputable def trustsB (key : Int) (l : List Int) (L : List Tru) : Bool := decide (trustsOk key l L)
open Classical in
theorem trustsB_yes {key : Int} {l : List Int} {L : List Tru} (h : trustsOk key l L) : trustsB key l L = true := by unfold trustsB; exact decide_eq_true h
open Classical in
theorem trustsB_no {key : Int} {l : List Int} {L : List Tru} (h : ¬ trustsOk key l L) : trustsB key l L = false := by unfold trustsB; exact decide_eq_false h
def UpToOk (key : Int) (l : List Int) (L : List Tru) (k : Nat) : Prop := ∀ i, i < k → trustOk key l i (L.getD i default)
set_option maxRecDepth 20000 in
theorem l10Trusts_calls (key : Int) (A C : Option Addr) (l : List Int) (cap : Nat) (L : List Tru) (cap2 : Nat) (w : World) (hn : l.length ≤ maxLen) (hA : Ints w .i64 w.heap.size A l) (hN : L.length ≤ maxLen) (hC : Trs w w.heap.size C L) :
    Calls Tryz.prog 149 #[.agg (pA key A l.length cap), .slice C L.length cap2] w fun e w' => e = .returned (.bool (trustsB key l L)) ∧ Below w.heap.size w w' := by
 have K0 := hid (show Kept w [(w.heap.size, 26, (pA key A l.length cap))] _ from (Kept.refl w).put1 _ _ (pA key A l.length cap) rfl)
 have PO := hid (fun (u : World) (hb : Below w.heap.size w u) => specPlanOk_calls key A l cap u hn ((hA.below hb (Nat.le_refl _)).more hb.size))
 have TO := hid (fun (t : Tru) (x : Int) (u : World) (hb : Below w.heap.size w u) => specTrustOk_calls key x A l cap t.clock t.epoch t.cursor t.read t.written t.nread t.nwritten t.failed u hn ((hA.below hb (Nat.le_refl _)).more hb.size))
 have HC := hid hC
 have hm := hN
 have hm2 := hn
 unfold maxLen at hm hm2
 clear hA hC hN hn
 go_enter Tryz.func149, Tryz.ntmps149
 go_wp2_with fail
 go_loopw [5] (fun i wr => ∃ k : Nat, k ≤ L.length ∧ i = .int .i64 k ∧ UpToOk key l L k ∧ Kept w [(w.heap.size, 26, (pA key A l.length cap))] wr) (fun i _ => L.length - (intOf i).toNat)
 case atStart => exact ⟨0, Nat.zero_le _, rfl, fun i hi => absurd hi (by omega), K0.out⟩
 case round =>
  obtain ⟨k, hk, rfl, hup, hz⟩ := hrel
  have HU := hid hup
  clear hup
  by_cases hlt : k < L.length
  ·obtain ⟨b, off, rfl, hb, hc⟩ := HC.out.at_ hlt
   have hlt' : (k : Int) < L.length := by omega
   have hk0 : (0 : Int) ≤ k := by omega
   have TB := hid (TO.out (L.getD k default) k)
   by_cases hok : trustOk key l k (L.getD k default)
   ·have NX := hid (show UpToOk key l L (k + 1) from fun i hi => by
      rcases Nat.lt_or_ge i k with h | h
      ·exact HU.out i h
      ·obtain rfl : i = k := by omega
       exact hok)
    rw [show (⟨(L.getD k default).clock, (L.getD k default).epoch, (L.getD k default).cursor, (L.getD k default).read, (L.getD k default).written, (L.getD k default).nread, (L.getD k default).nwritten, (L.getD k default).failed⟩ : Tru) = L.getD k default from rfl, trustB_yes hok] at TB
    clear hok HU
    generalize L.getD k default = t at hc TB
    go_upto_region 4 with fail
    refine wp_region_class (C := fun u => Kept w [(w.heap.size, 26, (pA key A l.length cap))] u) (by kernel_rfl) (by kernel_rfl) hz.drew ?_
    iterate 8 (first
     | go_big_quiet_skip
     | (go_big_quiet_want
        go_big_quiet_op
        first
         | go_big_quiet_on
         | (apply Exists.intro
            refine ⟨fun u hu => ?_, ?_⟩
            ·first
               | with_reducible rfl
               | (go_at_call 40; exact (TB.out u hu.1).mono fun e w' h => ⟨h.1, hu.below h.2⟩)
               | (obtain ⟨X0, Y0, -⟩ := hu.rd; obtain ⟨c0, c1, c2, c3, c4, c5, c6, c7⟩ := hc.below hu.1 hb; go_simp; first | done | with_reducible rfl)
            go_big_quiet_on)))
    refine wpQuiet_nil ?_
    intro u4 hz4
    go_wp2_with fail
    go_roundw
    case rel => exact ⟨k + 1, by omega, by go_num, NX.out, hz4⟩
    case measure => simp [intOf]; omega
   ·rw [show (⟨(L.getD k default).clock, (L.getD k default).epoch, (L.getD k default).cursor, (L.getD k default).read, (L.getD k default).written, (L.getD k default).nread, (L.getD k default).nwritten, (L.getD k default).failed⟩ : Tru) = L.getD k default from rfl, trustB_no hok] at TB
    have HX := hid (trustsB_no (l := l) (L := L) (key := key) (fun h => hok (h.2.2 k hlt)))
    clear hok HU
    generalize L.getD k default = t at hc TB
    go_upto_region 4 with fail
    refine wp_region_class (C := fun u => Kept w [(w.heap.size, 26, (pA key A l.length cap))] u) (by kernel_rfl) (by kernel_rfl) hz.drew ?_
    iterate 8 (first
     | go_big_quiet_skip
     | (go_big_quiet_want
        go_big_quiet_op
        first
         | go_big_quiet_on
         | (apply Exists.intro
            refine ⟨fun u hu => ?_, ?_⟩
            ·first
               | with_reducible rfl
               | (go_at_call 40; exact (TB.out u hu.1).mono fun e w' h => ⟨h.1, hu.below h.2⟩)
               | (obtain ⟨X0, Y0, -⟩ := hu.rd; obtain ⟨c0, c1, c2, c3, c4, c5, c6, c7⟩ := hc.below hu.1 hb; go_simp; first | done | with_reducible rfl)
            go_big_quiet_on)))
    refine wpQuiet_nil ?_
    intro u4 hz4
    go_wp2_with fail
    go_ret
    exact ⟨by rw [HX.out]; rfl, hz4.1⟩
  ·have hk' : k = L.length := by omega
   have e1 : (k : Int) = L.length := by omega
   subst hk'
   by_cases hp : planOk key l
   ·have PB := hid (fun u hb => PO.out u hb)
    rw [okB_yes hp] at PB
    by_cases hln : L.length = l.length
    ·have hbl : ((L.length : Int) == (l.length : Int)) = true := beq_iff_eq.2 (by omega)
     have hbn : (L.length == l.length) = true := beq_iff_eq.2 hln
     have HX := hid (trustsB_yes (show trustsOk key l L from ⟨hp, hln, HU.out⟩))
     clear hln hp
     obtain ⟨X0, Y0, -⟩ := hz.rd
     go_wp2_with fail
     refine (PB.out _ hz.1).mono ?_; rintro e w1 ⟨rfl, b1⟩
     have h1 := hz.below b1
     clear b1 hz X0 Y0
     obtain ⟨X0, Y0, -⟩ := h1.rd
     go_wp2_with fail
     go_ret
     exact ⟨by rw [HX.out]; rfl, h1.1⟩
    ·have hbl : ((L.length : Int) == (l.length : Int)) = false := beq_false_of_ne (by omega)
     have hbn : (L.length == l.length) = false := beq_false_of_ne hln
     have HX := hid (trustsB_no (show ¬ trustsOk key l L from fun h => hln h.2.1))
     clear hln hp
     obtain ⟨X0, Y0, -⟩ := hz.rd
     go_wp2_with fail
     refine (PB.out _ hz.1).mono ?_; rintro e w1 ⟨rfl, b1⟩
     have h1 := hz.below b1
     clear b1 hz X0 Y0
     obtain ⟨X0, Y0, -⟩ := h1.rd
     go_wp2_with fail
     go_ret
     exact ⟨by rw [HX.out]; rfl, h1.1⟩
   ·have PB := hid (fun u hb => PO.out u hb)
    rw [okB_no hp] at PB
    have HX := hid (trustsB_no (show ¬ trustsOk key l L from fun h => hp h.1))
    clear hp
    obtain ⟨X0, Y0, -⟩ := hz.rd
    go_wp2_with fail
    refine (PB.out _ hz.1).mono ?_; rintro e w1 ⟨rfl, b1⟩
    have h1 := hz.below b1
    clear b1 hz X0 Y0
    go_wp2_with fail
    go_ret
    exact ⟨by rw [HX.out]; rfl, h1.1⟩
end Go.Proofs.YteopplldbcgjjaaGreatDoor.Mx

import Derived.Test.YtodmponjjhokdaaGreatG35
import Derived.Test.YtodmponjjhokdaaGreatG11
import Derived.Test.YtodmponjjhokdaaGreatG34
import Derived.Test.YtodmponjjhokdaaGreatG04
import Derived.Test.YtodmponjjhokdaaGreatG01
import Derived.Test.YtodmponjjhokdaaGreatG18
import Derived.Test.YtodmponjjhokdaaGreatG02
import Derived.Test.YtodmponjjhokdaaGreatG06
import Derived.Deep.CutRange
import Derived.Test.YtodmponjjhokdaaGreatG25
import Derived.Test.YtodmponjjhokdaaGreatG03
import Derived.Test.YtodmponjjhokdaaGreatG08
import Derived.Test.YtodmponjjhokdaaGreatG07
import Derived.Test.YtodmponjjhokdaaGreatG32
namespace Go.Proofs.YtodmponjjhokdaaGreat.Mx
open Go.ChangeShapes Go.WideShapes Go.ChangeAt Go.RowKit
set_option linter.unusedVariables false
def SeaD (w : World) (e : Ending) (w' : World) : Prop :=
 ∃ (key : Int) (Q : Option Addr) (zs : List Int) (c : Nat) (x : Int) (B : Option Addr) (L : List Tru) (tc : Nat), e = .returned (.tuple #[.agg #[.int .i64 key, .slice Q zs.length c], .int .i64 x, .slice B L.length tc]) ∧ I64 x ∧ zs.length ≤ 5 ∧ zs.length ≤ c ∧ TrusI L ∧ L.length ≤ 4 ∧ Ints w' .i64 w'.heap.size Q zs ∧ Trs w' w'.heap.size B L ∧ Below w.heap.size w w'
def SeqD (w : World) (e : Ending) (w' : World) : Prop :=
 ∃ (key : Int) (Q : Option Addr) (zs : List Int) (c : Nat) (cnt : Int) (B : Option Addr) (L : List Tru) (tc : Nat) (mac : Int), e = .returned (.tuple #[.agg #[.int .i64 key, .slice Q zs.length c], .agg #[.int .i64 cnt, .slice B L.length tc, .int .i64 mac]]) ∧ I64 cnt ∧ zs.length ≤ 5 ∧ zs.length ≤ c ∧ TrusI L ∧ L.length ≤ 4 ∧ Ints w' .i64 w'.heap.size Q zs ∧ Trs w' w'.heap.size B L ∧ Below w.heap.size w w'
def SeqS (v w : World) (g : Nat) (A : Option Addr) (l : List Int) (cap : Nat) (e : Ending) (w' : World) : Prop :=
 ∃ (key : Int) (Q : Option Addr) (zs : List Int) (c : Nat) (cnt : Int) (B : Option Addr) (L : List Tru) (tc : Nat) (mac : Int), e = .returned (.tuple #[.agg #[.int .i64 key, .slice Q zs.length c], .agg #[.int .i64 cnt, .slice B L.length tc, .int .i64 mac]]) ∧ I64 cnt ∧ zs.length ≤ 5 ∧ zs.length ≤ c ∧ TrusI L ∧ L.length ≤ 4 ∧ Row w' w.heap.size 2 (.slice Q zs.length c) zs ∧ TrB w' w.heap.size w'.heap.size B L ∧ St v g A l cap w' ∧ w.grownBy w' (some g)
theorem SeqS.drew {v w u : World} {g : Nat} {A : Option Addr} {l : List Int} {cap : Nat} {e : Ending} (h : SeqS v w g A l cap e u) : SeqS v w g A l cap e u.drew := by
 obtain ⟨key, Q, zs, c, cnt, B, L, tc, mac, h1, h2, h3, h4, h5, h6, h7, h8, h9, h10⟩ := h
 exact ⟨key, Q, zs, c, cnt, B, L, tc, mac, h1, h2, h3, h4, h5, h6, ⟨h7.1.drew, h7.2⟩, h8, h9.drew, gb_drew h10⟩
theorem Row.ints {u : World} {base : Nat} {Q : Option Addr} {zs : List Int} {c : Nat} (h : Row u base 2 (.slice Q zs.length c) zs) : Ints u .i64 u.heap.size Q zs := by
 obtain ⟨Q', c', e, hI⟩ := h.reads
 injection e with e1 e2 e3
 subst e1
 exact hI
set_option maxRecDepth 20000 in
set_option maxHeartbeats 16000000 in
theorem drawSealOf_calls (A : Option Addr) (l : List Int) (cap : Nat) (w : World) (hn : l.length ≤ 4096) (hA : Ints w .u8 w.heap.size A l) :
    Calls Tryz.prog 5 #[.slice A l.length cap] w (SeaD w) := by
 have HN := Lib.hid (show l.length ≤ maxLen by unfold maxLen; omega)
 have HM := Lib.hid hn
 have K0 := Lib.hid (show Kept w [(w.heap.size, 26, #[.int .i64 0, .slice none 0 0])] _ from (Kept.refl w).put1 _ _ #[.int .i64 0, .slice none 0 0] rfl)
 have HA := Lib.hid (fun (u : World) (hb : Below w.heap.size w u) => (hA.below hb (Nat.le_refl _)).more hb.size)
 have Z0 := Lib.hid (show (w.alloc (.cells #[.int .i64 0, .slice none 0 0] 26)).heap.size = w.heap.size + 1 by simp)
 clear hn hA
 go_enter Tryz.func5, Tryz.ntmps5
 go_upto_region 1 with fail
 have k0 := K0.out
 have z0 := Z0.out
 clear K0 Z0
 generalize World.alloc _ _ = w0 at k0 z0 ⊢
 have HZ := Lib.hid z0
 clear z0
 go_wp2_with fail
 refine (new_calls A l cap _ HN.out (HA.out _ k0.1)).mono ?_; rintro e w1 ⟨rfl, b1, c1⟩
 rw [HZ.out]
 rw [HZ.out] at c1
 have s1 : St w0 (w.heap.size + 1) A l cap w1 := ⟨by rw [← HZ.out]; exact b1, c1⟩
 have k1 := k0.below b1
 have H1 := Lib.hid (show KB w w0 (w.heap.size + 1) A l cap [(w.heap.size, 26, #[.int .i64 0, .slice none 0 0])] w1 from ⟨k1.1, s1, by omega, fun x hx => ⟨⟨(k1.2 x hx).1, by simp at hx; subst hx; (simp only []; omega)⟩, (k1.2 x hx).2⟩⟩)
 clear b1 c1 s1 k1 k0 HA
 have z1 : w.heap.size + 1 < w1.heap.size := H1.out.2.1.2.lt
 go_wp2_with fail
 refine (draw10_calls w0 (w.heap.size + 1) A l cap w1 HM.out H1.out.2.1).mono ?_; rintro e w2 ⟨key, Q, zs, c, x, B, L, tc, rfl, hx, h5, hc, hI, h4, hr, ht, s2, g2⟩
 have h2 := (H1.out.step s2 g2)
 have kz := h2.at_ (p := w.heap.size) (t := 26) (cs := #[.int .i64 0, .slice none 0 0]) (by simp)
 have p1 := plan_put (x0 := .int .i64 key) (x1 := .slice Q zs.length c) kz
 have r1 := hr.grown p1.2 (by omega)
 have t1 := (ht.grown p1.2 (.inl (by omega))).trs.more p1.2.size
 have b1 := bgb h2.1 p1.2 h2.1.size (Nat.le_refl _)
 have HI := Lib.hid (show I64 x ∧ zs.length ≤ 5 ∧ zs.length ≤ c ∧ TrusI L ∧ L.length ≤ 4 from ⟨hx, h5, hc, hI, h4⟩)
 obtain ⟨kc0, kf0, -⟩ := h2.rd
 have R1 := Lib.hid r1
 have T1 := Lib.hid t1
 have B1 := Lib.hid b1
 have P1 := Lib.hid p1.1
 clear h2 hr ht s2 g2 H1 hx h5 hc hI h4 kz p1 r1 t1 b1
 go_wp2_with fail
 have d0 := P1.out.cell 0
 have d1 := P1.out.cell 1
 exact bodyPost_ret (v := .tuple #[.agg #[.int .i64 key, .slice Q zs.length c], .int .i64 x, .slice B L.length tc]) (by simp [results, Tryz.results5, go_sem, d0, d1]) rfl ⟨key, Q, zs, c, x, B, L, tc, rfl, HI.out.1, HI.out.2.1, HI.out.2.2.1, HI.out.2.2.2.1, HI.out.2.2.2.2, R1.out.ints, T1.out, B1.out⟩
theorem i64_w64 (z : Int) : I64 (wrap64 z) := by
 have h := i64_wrap z
 rwa [IntWalk.i64_left] at h
def T11 (v w : World) (g : Nat) (A : Option Addr) (l : List Int) (cap bp bs : Nat) (key : Int) (Q : Option Addr) (zs : List Int) (c : Nat) (cnt : Int) (B : Option Addr) (L : List Tru) (tc : Nat) (mac : Int) (u : World) : Prop :=
 KG w v g A l cap [(bs, 31, #[.int .i64 cnt, .slice B L.length tc, .int .i64 mac]), (bp, 26, #[.int .i64 key, .slice Q zs.length c]), (w.heap.size + 1, 31, #[.int .i64 0, .slice none 0 0, .int .i64 0]), (w.heap.size, 26, #[.int .i64 0, .slice none 0 0])] u ∧ RowB u (w.heap.size + 1 + 1) bp Q zs c ∧ (w.heap.size + 1 < bp ∧ bp < bs) ∧ zs.length ≤ 5 ∧ zs.length ≤ c ∧ I64 cnt ∧ TrusI L ∧ L.length ≤ 4 ∧ TrRow u (bp + 1) (.slice B L.length tc) L ∧ ∀ k, (Value.slice B L.length tc).ownBlock = some k → k < bs
section
variable {v w u u' : World} {g : Nat} {A : Option Addr} {l : List Int} {cap bp bs : Nat} {key : Int} {Q : Option Addr} {zs : List Int} {c : Nat} {cnt : Int} {B : Option Addr} {L : List Tru} {tc : Nat} {mac : Int}
theorem T11.step (h : T11 v w g A l cap bp bs key Q zs c cnt B L tc mac u) (hs : St v g A l cap u') (hg : u.grownBy u' (some g)) : T11 v w g A l cap bp bs key Q zs c cnt B L tc mac u' := by
 obtain ⟨h1, h2, h3, h4, h5, h6, h7, h8, h9, h10⟩ := h
 have hlt := h1.2.2.1
 exact ⟨h1.step hs hg, h2.grown hg (.inl (by omega)), h3, h4, h5, h6, h7, h8, SRow.grown h9 hg (by omega), h10⟩
theorem T11.drew (h : T11 v w g A l cap bp bs key Q zs c cnt B L tc mac u) : T11 v w g A l cap bp bs key Q zs c cnt B L tc mac u.drew := ⟨h.1.drew, h.2.1.drew, h.2.2.1, h.2.2.2.1, h.2.2.2.2.1, h.2.2.2.2.2.1, h.2.2.2.2.2.2.1, h.2.2.2.2.2.2.2.1, h.2.2.2.2.2.2.2.2.1.drew, h.2.2.2.2.2.2.2.2.2⟩
theorem T11.sset (h : T11 v w g A l cap bp bs key Q zs c cnt B L tc mac u) {cnt' mac' : Int} (hi : I64 cnt') (hg : u.grownBy u' (some bs)) (hc : CellsAt u' bs 31 #[.int .i64 cnt', .slice B L.length tc, .int .i64 mac']) : T11 v w g A l cap bp bs key Q zs c cnt' B L tc mac' u' := by
 obtain ⟨h1, h2, ⟨h3, h3'⟩, h4, h5, h6, h7, h8, h9, h10⟩ := h
 exact ⟨h1.put (k := 0) rfl (by unfold Apart; simp <;> omega) hg hc, h2.grown hg (.inr (by omega)), ⟨h3, h3'⟩, h4, h5, hi, h7, h8, SRow.kept h9 hg (by
  cases e : (Value.slice B L.length tc).ownBlock with
  | none => exact .inl rfl
  | some k => exact .inr (by intro e2; injection e2 with e2; have := h10 k e; omega)), h10⟩
theorem T11.c0 (h : T11 v w g A l cap bp bs key Q zs c cnt B L tc mac u) {x : Int} (hx : I64 x) : T11 v w g A l cap bp bs key Q zs c x B L tc mac (u.setCell ⟨bs, 0, none⟩ (.int .i64 x)) :=
 h.sset hx (gb_set (gb_refl u (some bs)) 0 (.int .i64 x)) ((h.1.at_ (p := bs) (t := 31) (cs := #[.int .i64 cnt, .slice B L.length tc, .int .i64 mac]) (by simp)).set_ 0 _)
theorem T11.c2 (h : T11 v w g A l cap bp bs key Q zs c cnt B L tc mac u) {x : Int} : T11 v w g A l cap bp bs key Q zs c cnt B L tc x (u.setCell ⟨bs, 2, none⟩ (.int .i64 x)) :=
 h.sset h.2.2.2.2.2.1 (gb_set (gb_refl u (some bs)) 2 (.int .i64 x)) ((h.1.at_ (p := bs) (t := 31) (cs := #[.int .i64 cnt, .slice B L.length tc, .int .i64 mac]) (by simp)).set_ 2 _)
theorem T11.t_ (h : T11 v w g A l cap bp bs key Q zs c cnt B L tc mac u) (hp : 0 < L.length) : ∃ gT, B = some ⟨gT, 0, none⟩ ∧ bp < gT ∧ gT < bs ∧ TruAt u gT 0 (L.getD 0 default) ∧ (∀ i, u.frozen? ⟨gT, i, none⟩ = false) ∧ ∀ (j : Nat) (x : Value) (t : Tru), j < 8 → TruI t → truV t = (truV (L.getD 0 default)).set j x → T11 v w g A l cap bp bs key Q zs c cnt B (L.set 0 t) tc mac (u.setCell ⟨gT, j, none⟩ x) := by
 obtain ⟨h1, h2, ⟨h3, h3'⟩, h4, h5, h6, h7, h8, h9, h10⟩ := h
 rcases h9.2 with ⟨e, h0⟩ | ⟨gT, cap', cur, e, hb, hg0, hnc, hcm, hcs, htk⟩
 ·omega
 ·simp only [Value.slice.injEq, true_and] at e
  obtain ⟨rfl, rfl⟩ := e
  have hlt : gT < bs := h10 gT rfl
  refine ⟨gT, rfl, by omega, hlt, ?_, (show CellsAt u gT 43 cur from hg0).frozen, fun j x t hj ht hv => ?_⟩
  ·obtain ⟨b, off, e, -, hc⟩ := Trs.at_ (row_cls h9 truV_len) hp
   injection e with e
   injection e with e1 e2
   subst e1 e2
   simpa using hc
  ·have hg := gb_set (gb_refl u (some gT)) j x
   have hr := TrRow.set1 h9 hp (j := j) hj t x hv
   rw [Nat.zero_mul, Nat.zero_add] at hr
   have hgg := h1.2.2.1
   unfold T11
   simp only [List.length_set]
   refine ⟨⟨gb_put h1.1 hg (by omega), h1.2.1.off hg (by omega), h1.2.2.1, fun y hy => ⟨(h1.2.2.2 y hy).1, (h1.2.2.2 y hy).2.grown hg ?_⟩⟩, h2.grown hg (.inr (by omega)), ⟨h3, h3'⟩, h4, h5, h6, h7.set 0 ht, h8, hr, h10⟩
   intro e
   injection e with e
   simp at hy
   rcases hy with rfl | rfl | rfl | rfl <;> (simp only [] at e; omega)
theorem seal_put {w1 : World} {r : Nat} {t : TypeId} {x0 x1 x2 y0 y1 y2 : Value} (hk : CellsAt w1 r t #[y0, y1, y2]) :
    CellsAt (((w1.setCell ⟨r, 0, none⟩ x0).setCell ⟨r, 1, none⟩ x1).setCell ⟨r, 2, none⟩ x2) r t #[x0, x1, x2] ∧ w1.grownBy (((w1.setCell ⟨r, 0, none⟩ x0).setCell ⟨r, 1, none⟩ x1).setCell ⟨r, 2, none⟩ x2) (some r) :=
 ⟨((hk.set_ 0 x0).set_ 1 x1).set_ 2 x2, gb_set (gb_set (gb_set (gb_refl w1 (some r)) 0 x0) 1 x1) 2 x2⟩
theorem T11.end_ (h : T11 v w g A l cap bp bs key Q zs c cnt B L tc mac u) : ∃ w4, (((((u.setCell ⟨w.heap.size, 0, none⟩ (.int .i64 key)).setCell ⟨w.heap.size, 1, none⟩ (.slice Q zs.length c)).setCell ⟨w.heap.size + 1, 0, none⟩ (.int .i64 cnt)).setCell ⟨w.heap.size + 1, 1, none⟩ (.slice B L.length tc)).setCell ⟨w.heap.size + 1, 2, none⟩ (.int .i64 mac)) = w4 ∧ ((∀ i, w4.cell? ⟨w.heap.size, i, none⟩ = #[.int .i64 key, .slice Q zs.length c][i]?) ∧ (∀ i, w4.cell? ⟨w.heap.size + 1, i, none⟩ = #[.int .i64 cnt, .slice B L.length tc, .int .i64 mac][i]?)) ∧ SeqS v w g A l cap (.returned (.tuple #[.agg #[.int .i64 key, .slice Q zs.length c], .agg #[.int .i64 cnt, .slice B L.length tc, .int .i64 mac]])) w4 := by
 obtain ⟨h1, h2, ⟨h3, h3'⟩, h4, h5, h6, h7, h8, h9, h10⟩ := h
 have p1 := plan_put (x0 := .int .i64 key) (x1 := .slice Q zs.length c) (h1.at_ (p := w.heap.size) (t := 26) (cs := #[.int .i64 0, .slice none 0 0]) (by simp))
 have k1 := h1.put (k := 3) rfl (by unfold Apart; simp <;> omega) p1.2 p1.1
 have r1 := h2.grown p1.2 (.inl (by omega))
 have t1 := SRow.grown h9 p1.2 (by omega)
 have p2 := seal_put (x0 := .int .i64 cnt) (x1 := .slice B L.length tc) (x2 := .int .i64 mac) (k1.at_ (p := w.heap.size + 1) (t := 31) (cs := #[.int .i64 0, .slice none 0 0, .int .i64 0]) (by simp [putBox]))
 have k2 := k1.put (k := 2) rfl (by unfold Apart putBox; simp <;> omega) p2.2 p2.1
 have r2 := r1.grown p2.2 (.inl (by omega))
 have t2 := SRow.grown t1 p2.2 (by omega)
 exact ⟨_, rfl, ⟨(k2.at_ (p := w.heap.size) (t := 26) (cs := #[.int .i64 key, .slice Q zs.length c]) (by simp [putBox])).cell, (k2.at_ (p := w.heap.size + 1) (t := 31) (cs := #[.int .i64 cnt, .slice B L.length tc, .int .i64 mac]) (by simp [putBox])).cell⟩, key, Q, zs, c, cnt, B, L, tc, mac, rfl, h6, h4, h5, h7, h8, r2.1.mono (by omega), (TrB.of_row t2).more (by omega) (Nat.le_refl _), k2.2.1, k2.1⟩
end
set_option maxRecDepth 20000 in
set_option maxHeartbeats 16000000 in
theorem drawSeal_calls (v : World) (g : Nat) (A : Option Addr) (l : List Int) (cap : Nat) (w : World) (hn : l.length ≤ 4096) (h : St v g A l cap w) :
    Calls Tryz.prog 21 #[.pointer (some ⟨g, 0, none⟩)] w (SeqS v w g A l cap) := by
 have HN := Lib.hid (show l.length ≤ maxLen by unfold maxLen; omega)
 have HM := Lib.hid hn
 have K0 := Lib.hid (((KG.start h).put1 w.heap.size 26 #[.int .i64 0, .slice none 0 0] rfl).put1 (w.heap.size + 1) 31 #[.int .i64 0, .slice none 0 0, .int .i64 0] (by simp))
 have Z0 := Lib.hid (show ((w.alloc (.cells #[.int .i64 0, .slice none 0 0] 26)).alloc (.cells #[.int .i64 0, .slice none 0 0, .int .i64 0] 31)).heap.size = w.heap.size + 1 + 1 by simp)
 clear hn h
 go_enter Tryz.func21, Tryz.ntmps21
 go_upto_region 1 with fail
 generalize World.alloc _ _ = w0 at K0 Z0 ⊢
 go_wp2_with fail
 refine (draw10_calls v g A l cap _ HM.out K0.out.2.1).mono ?_; rintro e w1 ⟨key, Q, zs, c, x, B, L, tc, rfl, hx, h5, hc, hI, h4, hr, ht, s1, g1⟩
 have hk1 := K0.out.step s1 g1
 rw [Z0.out] at hr ht
 have hz1 : w.heap.size + 1 < w1.heap.size := hk1.lt (x := (w.heap.size + 1, 31, #[.int .i64 0, .slice none 0 0, .int .i64 0])) (by simp)
 have rb := RowB.of hr
 have k2 := hk1.put1 w1.heap.size 26 #[.int .i64 key, .slice Q zs.length c] rfl
 have rb2 := rb.below ((Below.refl _ _).alloc (Nat.le_refl _) (.cells #[.int .i64 key, .slice Q zs.length c] 26))
 have t2 := ht.below ((Below.refl _ _).alloc (Nat.le_refl _) (.cells #[.int .i64 key, .slice Q zs.length c] 26))
 have sz2 : (w1.alloc (.cells #[.int .i64 key, .slice Q zs.length c] 26)).heap.size = w1.heap.size + 1 := by simp
 clear hr ht s1 g1 hk1 rb K0 Z0
 go_upto_region 2 with fail
 generalize World.alloc _ _ = w2 at k2 rb2 t2 sz2 ⊢
 have RB2 := Lib.hid rb2
 have T2 := Lib.hid t2
 have SZ2 := Lib.hid sz2
 obtain ⟨kc0, kf0, kc1, kf1, kc2, kf2, -⟩ := k2.rd
 have K2 := Lib.hid k2
 clear rb2 t2 sz2 k2
 go_wp2_with fail
 refine (specSealOf_calls key Q zs c x B L tc w2 (by unfold maxLen; omega) RB2.out.1.ints (by omega) (T2.out.trs.more (by rw [SZ2.out]; omega)) hI hx).mono ?_; rintro e w3 ⟨A3, c3, rfl, r3, b3⟩
 have hRL : (sealN key zs x L).2.1.length ≤ 4 ∧ TrusI (sealN key zs x L).2.1 ∧ I64 (sealN key zs x L).1 := by
  unfold sealN
  split
  ·exact ⟨h4, hI, hx⟩
  ·exact ⟨by simp, fun i hi => by simp at hi, ⟨by omega, by omega⟩⟩
 generalize sealN key zs x L = R at r3 hRL ⊢
 obtain ⟨cnt, SL, mac⟩ := R
 simp only [] at r3 hRL ⊢
 have k3 := K2.out.below b3
 have rb3 := RB2.out.below b3
 have sz3 := b3.size
 rw [SZ2.out] at r3 sz3
 have o3 : ∀ k, (Value.slice A3 SL.length c3).ownBlock = some k → k < w3.heap.size := fun k hk => (SRow.lt r3 hk).2
 have k4 := k3.put1 w3.heap.size 31 #[.int .i64 cnt, .slice A3 SL.length c3, .int .i64 mac] rfl
 have H4 := Lib.hid (show T11 v w g A l cap w1.heap.size w3.heap.size key Q zs c cnt A3 SL c3 mac _ from ⟨k4, rb3.below ((Below.refl _ _).alloc (Nat.le_refl _) (.cells #[.int .i64 cnt, .slice A3 SL.length c3, .int .i64 mac] 31)), ⟨hz1, by omega⟩, h5, hc, hRL.2.2, hRL.2.1, hRL.1, SRow.alloc r3 _, o3⟩)
 clear kc0 kf0 kc1 kf1 kc2 kf2 K2 RB2 T2 SZ2 r3 b3 k3 rb3 sz3 o3 k4 hRL hI h4 h5 hc hx hz1
 go_upto_region 3 with fail
 generalize World.alloc _ _ = w4 at H4 ⊢
 generalize w1.heap.size = bp at H4 ⊢
 generalize w3.heap.size = bs at H4 ⊢
 generalize A3 = B at H4 ⊢
 generalize c3 = tc at H4 ⊢
 go_wp2_with fail
 refine (once_st v g A l cap 3 w4 HN.out H4.out.1.2.1 (by omega)).mono ?_; rintro e w6 ⟨b, rfl, s6, g6⟩
 have H6 := Lib.hid (H4.out.step s6 g6)
 clear s6 g6 H4
 rcases b with _ | _
 case' false =>
  have H9 : RowKit.Hid (∃ cnt' L' mac', L'.length = SL.length ∧ T11 v w g A l cap bp bs key Q zs c cnt' B L' tc mac' w6) := Lib.hid ⟨_, _, _, rfl, H6.out⟩
  clear H6
  go_upto_region 15 with fail
 case' true =>
  go_wp2_with fail
  refine (below_st v g A l cap 4 w6 HN.out H6.out.1.2.1 (by omega)).mono ?_; rintro e w7 ⟨n, rfl, ⟨n0, n1⟩, s7, g7⟩
  have H7 := Lib.hid (H6.out.step s7 g7)
  clear s7 g7 H6
  have hn7 : n = 0 ∨ n = 1 ∨ n = 2 ∨ n = 3 := by omega
  clear n0 n1
  rcases hn7 with rfl | rfl | rfl | rfl
 case' inl =>
  obtain ⟨kc0, kf0, -⟩ := H7.out.1.rd
  have H9 : RowKit.Hid (∃ cnt' L' mac', L'.length = SL.length ∧ T11 v w g A l cap bp bs key Q zs c cnt' B L' tc mac' (w7.setCell ⟨bs, 2, none⟩ (.int .i64 (wrap64 (mac + 1))))) := Lib.hid ⟨_, _, _, rfl, H7.out.c2⟩
  go_upto_region 15 with fail
  clear kc0 kf0 H7
  generalize World.setCell _ _ _ = w9 at H9 ⊢
 case' inr.inl =>
  obtain ⟨kc0, kf0, -⟩ := H7.out.1.rd
  have H9 : RowKit.Hid (∃ cnt' L' mac', L'.length = SL.length ∧ T11 v w g A l cap bp bs key Q zs c cnt' B L' tc mac' (w7.setCell ⟨bs, 0, none⟩ (.int .i64 (wrap64 (cnt + 1))))) := Lib.hid ⟨_, _, _, rfl, H7.out.c0 (i64_w64 _)⟩
  go_upto_region 15 with fail
  clear kc0 kf0 H7
  generalize World.setCell _ _ _ = w9 at H9 ⊢
 case' inr.inr.inl =>
  by_cases hp : 0 < SL.length
  ·have hp' : (0 : Int) < SL.length := by omega
   obtain ⟨kc0, kf0, -⟩ := H7.out.1.rd
   obtain ⟨gT, rfl, hg1, hg2, ⟨m0, m1, m2, m3, m4, m5, m6, m7⟩, hfz, hset⟩ := H7.out.t_ hp
   rw [Nat.zero_add] at m1 m2 m3 m4 m5 m6 m7
   have HTI := Lib.hid (H7.out.2.2.2.2.2.2.1 0 hp)
   have HS := Lib.hid hset
   clear hset
   generalize SL.getD 0 default = t at m0 m1 m2 m3 m4 m5 m6 m7 HS HTI
   go_upto_region 11 with fail
   go_region
   go_upto_region 15 with fail
   obtain ⟨a0, a1, a2, a3, a4, a5, a6⟩ := HTI.out
   have H9 : RowKit.Hid (∃ cnt' L' mac', L'.length = SL.length ∧ T11 v w g A l cap bp bs key Q zs c cnt' (some ⟨gT, 0, none⟩) L' tc mac' ((w7.setCell ⟨gT, 3, none⟩ (.int .i64 (wrap64 (t.read + 1)))).drew)) := Lib.hid ⟨cnt, _, mac, List.length_set .., (HS.out 3 (.int .i64 (wrap64 (t.read + 1))) { t with read := wrap64 (t.read + 1) } (by omega) ⟨a0, a1, a2, i64_w64 _, a4, a5, a6⟩ rfl).drew⟩
   clear kc0 kf0 m0 m1 m2 m3 m4 m5 m6 m7 HS HTI H7
   generalize World.drew _ = w9 at H9 ⊢
   obtain ⟨cnt', L', mac', hll, h9⟩ := H9.out
   clear H9
   rw [← hll]
   have H9 := Lib.hid h9
   obtain ⟨kc0, kf0, kc1, kf1, kc2, kf2, kc3, kf3, -⟩ := h9.1.rd
   obtain ⟨q1, q2⟩ := h9.2.2.1
   obtain ⟨ne0, ne1, ne2, ne3, ne4, ne5, ne6, ne7⟩ : ¬ w.heap.size = bp ∧ ¬ bp = w.heap.size ∧ ¬ w.heap.size + 1 = bp ∧ ¬ bp = w.heap.size + 1 ∧ ¬ w.heap.size = bs ∧ ¬ bs = w.heap.size ∧ ¬ w.heap.size + 1 = bs ∧ ¬ bs = w.heap.size + 1 := by omega
   clear q1 q2 h9 hll
   go_region
   go_wp2_with fail
   obtain ⟨wz, ez, ⟨d0, d1⟩, hz⟩ := H9.out.end_
   rw [ez]
   have HZ := Lib.hid hz.drew
   clear ez hz
   exact bodyPost_ret (v := .tuple #[.agg _, .agg _]) (by simp [results, Tryz.results21, go_sem, d0, d1]) rfl HZ.out
  ·have hp' : ¬ (0 : Int) < SL.length := by omega
   obtain ⟨kc0, kf0, -⟩ := H7.out.1.rd
   go_upto_region 15 with fail
   have H9 : RowKit.Hid (∃ cnt' L' mac', L'.length = SL.length ∧ T11 v w g A l cap bp bs key Q zs c cnt' B L' tc mac' w7) := Lib.hid ⟨_, _, _, rfl, H7.out⟩
   clear kc0 kf0 H7
   obtain ⟨cnt', L', mac', hll, h9⟩ := H9.out
   clear H9
   rw [← hll]
   have H9 := Lib.hid h9
   obtain ⟨kc0, kf0, kc1, kf1, kc2, kf2, kc3, kf3, -⟩ := h9.1.rd
   obtain ⟨q1, q2⟩ := h9.2.2.1
   obtain ⟨ne0, ne1, ne2, ne3, ne4, ne5, ne6, ne7⟩ : ¬ w.heap.size = bp ∧ ¬ bp = w.heap.size ∧ ¬ w.heap.size + 1 = bp ∧ ¬ bp = w.heap.size + 1 ∧ ¬ w.heap.size = bs ∧ ¬ bs = w.heap.size ∧ ¬ w.heap.size + 1 = bs ∧ ¬ bs = w.heap.size + 1 := by omega
   clear q1 q2 h9 hll
   go_region
   go_wp2_with fail
   obtain ⟨wz, ez, ⟨d0, d1⟩, hz⟩ := H9.out.end_
   rw [ez]
   have HZ := Lib.hid hz.drew
   clear ez hz
   exact bodyPost_ret (v := .tuple #[.agg _, .agg _]) (by simp [results, Tryz.results21, go_sem, d0, d1]) rfl HZ.out
 case' inr.inr.inr =>
  by_cases hp : 0 < SL.length
  ·have hp' : (0 : Int) < SL.length := by omega
   obtain ⟨kc0, kf0, -⟩ := H7.out.1.rd
   obtain ⟨gT, rfl, hg1, hg2, ⟨m0, m1, m2, m3, m4, m5, m6, m7⟩, hfz, hset⟩ := H7.out.t_ hp
   rw [Nat.zero_add] at m1 m2 m3 m4 m5 m6 m7
   have HTI := Lib.hid (H7.out.2.2.2.2.2.2.1 0 hp)
   have HS := Lib.hid hset
   clear hset
   generalize SL.getD 0 default = t at m0 m1 m2 m3 m4 m5 m6 m7 HS HTI
   go_upto_region 14 with fail
   go_region
   go_upto_region 15 with fail
   obtain ⟨a0, a1, a2, a3, a4, a5, a6⟩ := HTI.out
   have H9 : RowKit.Hid (∃ cnt' L' mac', L'.length = SL.length ∧ T11 v w g A l cap bp bs key Q zs c cnt' (some ⟨gT, 0, none⟩) L' tc mac' ((w7.setCell ⟨gT, 7, none⟩ (.bool (!t.failed))).drew)) := Lib.hid ⟨cnt, _, mac, List.length_set .., (HS.out 7 (.bool (!t.failed)) { t with failed := !t.failed } (by omega) ⟨a0, a1, a2, a3, a4, a5, a6⟩ rfl).drew⟩
   clear kc0 kf0 m0 m1 m2 m3 m4 m5 m6 m7 HS HTI H7
   generalize World.drew _ = w9 at H9 ⊢
   obtain ⟨cnt', L', mac', hll, h9⟩ := H9.out
   clear H9
   rw [← hll]
   have H9 := Lib.hid h9
   obtain ⟨kc0, kf0, kc1, kf1, kc2, kf2, kc3, kf3, -⟩ := h9.1.rd
   obtain ⟨q1, q2⟩ := h9.2.2.1
   obtain ⟨ne0, ne1, ne2, ne3, ne4, ne5, ne6, ne7⟩ : ¬ w.heap.size = bp ∧ ¬ bp = w.heap.size ∧ ¬ w.heap.size + 1 = bp ∧ ¬ bp = w.heap.size + 1 ∧ ¬ w.heap.size = bs ∧ ¬ bs = w.heap.size ∧ ¬ w.heap.size + 1 = bs ∧ ¬ bs = w.heap.size + 1 := by omega
   clear q1 q2 h9 hll
   go_region
   go_wp2_with fail
   obtain ⟨wz, ez, ⟨d0, d1⟩, hz⟩ := H9.out.end_
   rw [ez]
   have HZ := Lib.hid hz.drew
   clear ez hz
   exact bodyPost_ret (v := .tuple #[.agg _, .agg _]) (by simp [results, Tryz.results21, go_sem, d0, d1]) rfl HZ.out
  ·have hp' : ¬ (0 : Int) < SL.length := by omega
   obtain ⟨kc0, kf0, -⟩ := H7.out.1.rd
   go_upto_region 15 with fail
   have H9 : RowKit.Hid (∃ cnt' L' mac', L'.length = SL.length ∧ T11 v w g A l cap bp bs key Q zs c cnt' B L' tc mac' w7) := Lib.hid ⟨_, _, _, rfl, H7.out⟩
   clear kc0 kf0 H7
   obtain ⟨cnt', L', mac', hll, h9⟩ := H9.out
   clear H9
   rw [← hll]
   have H9 := Lib.hid h9
   obtain ⟨kc0, kf0, kc1, kf1, kc2, kf2, kc3, kf3, -⟩ := h9.1.rd
   obtain ⟨q1, q2⟩ := h9.2.2.1
   obtain ⟨ne0, ne1, ne2, ne3, ne4, ne5, ne6, ne7⟩ : ¬ w.heap.size = bp ∧ ¬ bp = w.heap.size ∧ ¬ w.heap.size + 1 = bp ∧ ¬ bp = w.heap.size + 1 ∧ ¬ w.heap.size = bs ∧ ¬ bs = w.heap.size ∧ ¬ w.heap.size + 1 = bs ∧ ¬ bs = w.heap.size + 1 := by omega
   clear q1 q2 h9 hll
   go_region
   go_wp2_with fail
   obtain ⟨wz, ez, ⟨d0, d1⟩, hz⟩ := H9.out.end_
   rw [ez]
   have HZ := Lib.hid hz.drew
   clear ez hz
   exact bodyPost_ret (v := .tuple #[.agg _, .agg _]) (by simp [results, Tryz.results21, go_sem, d0, d1]) rfl HZ.out
 all_goals
  obtain ⟨cnt', L', mac', hll, h9⟩ := H9.out
  clear H9
  rw [← hll]
  have H9 := Lib.hid h9
  obtain ⟨kc0, kf0, kc1, kf1, kc2, kf2, kc3, kf3, -⟩ := h9.1.rd
  obtain ⟨q1, q2⟩ := h9.2.2.1
  obtain ⟨ne0, ne1, ne2, ne3, ne4, ne5, ne6, ne7⟩ : ¬ w.heap.size = bp ∧ ¬ bp = w.heap.size ∧ ¬ w.heap.size + 1 = bp ∧ ¬ bp = w.heap.size + 1 ∧ ¬ w.heap.size = bs ∧ ¬ bs = w.heap.size ∧ ¬ w.heap.size + 1 = bs ∧ ¬ bs = w.heap.size + 1 := by omega
  clear q1 q2 h9 hll
  go_region
  go_wp2_with fail
  obtain ⟨wz, ez, ⟨d0, d1⟩, hz⟩ := H9.out.end_
  rw [ez]
  have HZ := Lib.hid hz.drew
  clear ez hz
  exact bodyPost_ret (v := .tuple #[.agg _, .agg _]) (by simp [results, Tryz.results21, go_sem, d0, d1]) rfl HZ.out
set_option maxRecDepth 20000 in
set_option maxHeartbeats 16000000 in
theorem drawSealOk_calls (A : Option Addr) (l : List Int) (cap : Nat) (w : World) (hn : l.length ≤ 4096) (hA : Ints w .u8 w.heap.size A l) :
    Calls Tryz.prog 7 #[.slice A l.length cap] w (SeqD w) := by
 have HN := Lib.hid (show l.length ≤ maxLen by unfold maxLen; omega)
 have HM := Lib.hid hn
 have K0 := Lib.hid (show Kept w [(w.heap.size + 1, 31, #[.int .i64 0, .slice none 0 0, .int .i64 0]), (w.heap.size, 26, #[.int .i64 0, .slice none 0 0])] _ from ((Kept.refl w).put1 _ _ #[.int .i64 0, .slice none 0 0] rfl).put1 _ _ #[.int .i64 0, .slice none 0 0, .int .i64 0] (by simp))
 have HA := Lib.hid (fun (u : World) (hb : Below w.heap.size w u) => (hA.below hb (Nat.le_refl _)).more hb.size)
 have Z0 := Lib.hid (show ((w.alloc (.cells #[.int .i64 0, .slice none 0 0] 26)).alloc (.cells #[.int .i64 0, .slice none 0 0, .int .i64 0] 31)).heap.size = w.heap.size + 1 + 1 by simp)
 clear hn hA
 go_enter Tryz.func7, Tryz.ntmps7
 go_upto_region 1 with fail
 have k0 := K0.out
 have z0 := Z0.out
 clear K0 Z0
 generalize World.alloc _ _ = w0 at k0 z0 ⊢
 have HZ := Lib.hid z0
 clear z0
 go_wp2_with fail
 refine (new_calls A l cap _ HN.out (HA.out _ k0.1)).mono ?_; rintro e w1 ⟨rfl, b1, c1⟩
 rw [HZ.out]
 rw [HZ.out] at c1
 have s1 : St w0 (w.heap.size + 1 + 1) A l cap w1 := ⟨by rw [← HZ.out]; exact b1, c1⟩
 have k1 := k0.below b1
 have H1 := Lib.hid (show KB w w0 (w.heap.size + 1 + 1) A l cap [(w.heap.size + 1, 31, #[.int .i64 0, .slice none 0 0, .int .i64 0]), (w.heap.size, 26, #[.int .i64 0, .slice none 0 0])] w1 from ⟨k1.1, s1, by omega, fun x hx => ⟨⟨(k1.2 x hx).1, by simp at hx; rcases hx with rfl | rfl <;> (simp only []; omega)⟩, (k1.2 x hx).2⟩⟩)
 clear b1 c1 s1 k1 k0 HA
 have z1 : w.heap.size + 1 + 1 < w1.heap.size := H1.out.2.1.2.lt
 go_wp2_with fail
 refine (drawSeal_calls w0 (w.heap.size + 1 + 1) A l cap w1 HM.out H1.out.2.1).mono ?_; rintro e w2 ⟨key, Q, zs, c, cnt, B, L, tc, mac, rfl, hx, h5, hc, hI, h4, hr, ht, s2, g2⟩
 have h2 := (H1.out.step s2 g2)
 have p1 := plan_put (x0 := .int .i64 key) (x1 := .slice Q zs.length c) (h2.at_ (p := w.heap.size) (t := 26) (cs := #[.int .i64 0, .slice none 0 0]) (by simp))
 have p2 := seal_put (x0 := .int .i64 cnt) (x1 := .slice B L.length tc) (x2 := .int .i64 mac) ((h2.at_ (p := w.heap.size + 1) (t := 31) (cs := #[.int .i64 0, .slice none 0 0, .int .i64 0]) (by simp)).grown p1.2 (by intro e; injection e; omega))
 have c1 := p1.1.grown p2.2 (by intro e; injection e; omega)
 have r1 := (hr.grown p1.2 (by omega)).grown p2.2 (by omega)
 have t1 := (((ht.grown p1.2 (.inl (by omega))).grown p2.2 (.inl (by omega))).trs.more p1.2.size).more p2.2.size
 have b1 := bgb (bgb h2.1 p1.2 h2.1.size (Nat.le_refl _)) p2.2 (Nat.le_trans h2.1.size p1.2.size) (by omega)
 have HI := Lib.hid (show I64 cnt ∧ zs.length ≤ 5 ∧ zs.length ≤ c ∧ TrusI L ∧ L.length ≤ 4 from ⟨hx, h5, hc, hI, h4⟩)
 obtain ⟨kc0, kf0, kc1, kf1, -⟩ := h2.rd
 have R1 := Lib.hid r1
 have T1 := Lib.hid t1
 have B1 := Lib.hid b1
 have P1 := Lib.hid c1
 have P2 := Lib.hid p2.1
 clear h2 hr ht s2 g2 H1 hx h5 hc hI h4 p1 p2 r1 t1 b1 c1
 go_wp2_with fail
 have d0 := P1.out.cell
 have d1 := P2.out.cell
 exact bodyPost_ret (v := .tuple #[.agg #[.int .i64 key, .slice Q zs.length c], .agg #[.int .i64 cnt, .slice B L.length tc, .int .i64 mac]]) (by simp [results, Tryz.results7, go_sem, d0, d1]) rfl ⟨key, Q, zs, c, cnt, B, L, tc, mac, rfl, HI.out.1, HI.out.2.1, HI.out.2.2.1, HI.out.2.2.2.1, HI.out.2.2.2.2, R1.out.ints, T1.out, B1.out⟩
end Go.Proofs.YtodmponjjhokdaaGreat.Mx
namespace Go.Proofs.YtodmponjjhokdaaGreat.Mx
open Go.ChangeShapes Go.WideShapes Go.ChangeAt Go.RowKit
set_option linter.unusedVariables false
end Go.Proofs.YtodmponjjhokdaaGreat.Mx
namespace Go.Proofs.YtodmponjjhokdaaGreat.Mx
open Go.ChangeShapes Go.WideShapes Go.ChangeAt Go.RowKit
set_option linter.unusedVariables false
end Go.Proofs.YtodmponjjhokdaaGreat.Mx
namespace Go.Proofs.YtodmponjjhokdaaGreat.Mx
open Go.ChangeShapes Go.WideShapes Go.ChangeAt Go.RowKit
set_option linter.unusedVariables false
end Go.Proofs.YtodmponjjhokdaaGreat.Mx
namespace Go.Proofs.YtodmponjjhokdaaGreat.Mx
open Go.ChangeShapes Go.WideShapes Go.ChangeAt Go.RowKit
set_option linter.unusedVariables false
end Go.Proofs.YtodmponjjhokdaaGreat.Mx
namespace Go.Proofs.YtodmponjjhokdaaGreat.Mx
open Go.ChangeShapes Go.WideShapes Go.ChangeAt Go.RowKit
set_option linter.unusedVariables false
theorem truGuard : Tryz.prog.eqGuardType Tryz.prog.depth 43 = false := by kernel_rfl
end Go.Proofs.YtodmponjjhokdaaGreat.Mx
namespace Go.Proofs.YtodmponjjhokdaaGreat.Mx
open Go.ChangeShapes Go.WideShapes Go.ChangeAt Go.RowKit
set_option linter.unusedVariables false
set_option maxRecDepth 20000 in
set_option maxHeartbeats 4000000 in
theorem likeTrusts_same (A C : Option Addr) (L : List Tru) (cap cap' : Nat) (w : World) (hn : L.length ≤ maxLen) (hA : Trs w w.heap.size A L) (hC : Trs w w.heap.size C L) :
    Calls Tryz.prog 22 #[.slice A L.length cap, .slice C L.length cap'] w fun e w' => e = .returned (.bool true) ∧ Below w.heap.size w w' := by
 have hm0 := hn
 unfold maxLen at hm0
 have HA := Lib.hid hA
 have HC := Lib.hid hC
 clear hA hC hn
 go_enter Tryz.func22, Tryz.ntmps22
 go_wp2_with fail
 go_loopw [5] (fun i wr => ∃ k : Nat, k ≤ L.length ∧ i = .int .i64 k ∧ Below w.heap.size w wr) (fun i _ => L.length - (intOf i).toNat)
 case atStart => exact ⟨0, Nat.zero_le _, rfl, Below.refl _ _⟩
 case round =>
  obtain ⟨k, hk, rfl, hbel⟩ := hrel
  have HB := Lib.hid hbel
  clear hbel
  by_cases hlt : k < L.length
  ·obtain ⟨b, off, rfl, hb, c0, c1, c2, c3, c4, c5, c6, c7⟩ := Trs.at_ (HA.out.below HB.out (Nat.le_refl _)) hlt
   obtain ⟨b', off', rfl, hb', d0, d1, d2, d3, d4, d5, d6, d7⟩ := Trs.at_ (HC.out.below HB.out (Nat.le_refl _)) hlt
   have hlt' : (k : Int) < L.length := by omega
   have k0' : (0 : Int) ≤ k := by omega
   generalize L.getD k default = t at c0 c1 c2 c3 c4 c5 c6 c7 d0 d1 d2 d3 d4 d5 d6 d7
   obtain ⟨t0, t1, t2, t3, t4, t5, t6, t7⟩ := t
   simp only [] at c0 c1 c2 c3 c4 c5 c6 c7 d0 d1 d2 d3 d4 d5 d6 d7
   have hm := truGuard
   clear hb hb' hk
   go_upto_region 6 with fail
   go_region
   go_wp2_with fail
   go_roundw
   case rel => exact ⟨k + 1, by omega, by go_num, HB.out.drew⟩
   case measure => simp [intOf]; omega
  ·have hlt' : ¬ (k : Int) < L.length := by omega
   go_wp2_with fail
   go_ret
   exact ⟨rfl, HB.out⟩
set_option maxRecDepth 20000 in
set_option maxHeartbeats 4000000 in
theorem likeSeal_same (cnt mac : Int) (A C : Option Addr) (L : List Tru) (c c' : Nat) (w : World) (hn : L.length ≤ maxLen) (hA : Trs w w.heap.size A L) (hC : Trs w w.heap.size C L) :
    Calls Tryz.prog 8 #[.agg #[.int .i64 cnt, .slice A L.length c, .int .i64 mac], .agg #[.int .i64 cnt, .slice C L.length c', .int .i64 mac]] w fun e w' => e = .returned (.bool true) ∧ Below w.heap.size w w' := by
 have K0 := Lib.hid (show Kept w [(w.heap.size + 1, 31, #[.int .i64 cnt, .slice C L.length c', .int .i64 mac]), (w.heap.size, 31, #[.int .i64 cnt, .slice A L.length c, .int .i64 mac])] _ from (((Kept.refl w).put1 _ _ #[.int .i64 cnt, .slice A L.length c, .int .i64 mac] rfl).put1 _ _ #[.int .i64 cnt, .slice C L.length c', .int .i64 mac] (by simp)))
 have E := Lib.hid (fun u (hb : Below w.heap.size w u) => likeTrusts_same A C L c c' u hn ((hA.below hb (Nat.le_refl _)).more hb.size) ((hC.below hb (Nat.le_refl _)).more hb.size))
 clear hA hC hn
 go_enter Tryz.func8, Tryz.ntmps8
 go_wp2_with fail
 refine (E.out _ K0.out.1).mono ?_; rintro e w1 ⟨rfl, b1⟩
 have h1 := K0.out.below b1
 clear b1 K0 E
 obtain ⟨kc0, kf0, kc1, kf1, -⟩ := h1.rd
 have H1 := Lib.hid h1
 clear h1
 go_wp2_with fail
 go_ret
 exact ⟨rfl, H1.out.1⟩
end Go.Proofs.YtodmponjjhokdaaGreat.Mx
namespace Go.Proofs.YtodmponjjhokdaaGreat.Mx
set_option linter.unusedVariables false
end Go.Proofs.YtodmponjjhokdaaGreat.Mx
namespace Go.Proofs.YtodmponjjhokdaaGreat.Mx
open Go.ChangeShapes Go.WideShapes Go.ChangeAt Go.RowKit
set_option linter.unusedVariables false
theorem big_no (A : Option Addr) (n cap : Nat) (w : World) (h : n ≤ 4096) :
    Calls Tryz.prog 4 #[.slice A n cap] w fun e w' => e = .returned (.bool false) ∧ w = w' := by
 have h' : ¬ (4096 : Int) < n := by omega
 go_enter Tryz.func4, Tryz.ntmps4
 go_wp2
 go_ret
 exact ⟨by simp, rfl⟩
theorem big_yes (A : Option Addr) (n cap : Nat) (w : World) (h : 4096 < n) :
    Calls Tryz.prog 4 #[.slice A n cap] w fun e w' => e = .returned (.bool true) ∧ w = w' := by
 have h' : (4096 : Int) < n := by omega
 go_enter Tryz.func4, Tryz.ntmps4
 go_wp2
 go_ret
 exact ⟨by simp, rfl⟩
end Go.Proofs.YtodmponjjhokdaaGreat.Mx
namespace Go.Proofs.YtodmponjjhokdaaGreat.Mx
open Go.RowKit
set_option linter.unusedVariables false
def AndC (P Q : (Nat → Bool) → (Nat → Value) → World → Prop) (D : Nat → Bool) (γ : Nat → Value) (u : World) : Prop := P D γ u ∧ Q D γ u
def HoldC (k q : Nat) (P : Value → World → Prop) (D : Nat → Bool) (γ : Nat → Value) (u : World) : Prop := D k = true → D q = false → P (γ k) u
namespace HoldC
variable {k q j : Nat} {P : Value → World → Prop} {D : Nat → Bool} {γ γ' : Nat → Value} {u u' : World} {x : Value}
theorem loc (ha : ∀ i, D i = true → γ i = γ' i) (h : HoldC k q P D γ u) : HoldC k q P D γ' u := fun hk hq => by rw [← ha k hk]; exact h hk hq
theorem start : HoldC k q P (fun _ => false) γ u := fun h => by cases h
theorem put (hx : P x u') : HoldC k q P (setD D k) (setG γ k x) u' := fun _ _ => by unfold setG; rw [if_pos rfl]; exact hx
theorem used : HoldC k q P (setD D q) γ' u' := fun _ h => by unfold setD at h; simp at h
end HoldC
end Go.Proofs.YtodmponjjhokdaaGreat.Mx

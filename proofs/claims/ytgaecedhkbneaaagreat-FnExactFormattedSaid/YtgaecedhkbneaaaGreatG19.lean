import Derived.Test.YtgaecedhkbneaaaGreatG16
import Derived.Test.YtgaecedhkbneaaaGreatG17
import Derived.Test.YtgaecedhkbneaaaGreatG18
import Derived.Test.YtgaecedhkbneaaaGreatG14
import Derived.Test.YtgaecedhkbneaaaGreatG01
import Derived.Test.YtgaecedhkbneaaaGreatG02
import Derived.OpenShut
import Derived.ShutString
import Derived.ChangeOld
import Derived.Lib.SmallJoins
namespace Go.Proofs.YtgaecedhkbneaaaGreat.Mx
open Go.ChangeShapes Go.WideShapes Go.ChangeAt Go.RowKit
set_option linter.unusedVariables false
theorem VolO.litsF {u : World} {b : Nat} {x : VolN} {cs : Array Value} (h : VolO u b x (.agg cs)) : ∃ A c B d C e g, cs = #[.int .i64 x.key, .slice A x.counts.length c, .slice B x.trusts.length d, .slice C x.cells.length e, .slice (some ⟨g, 0, none⟩) 2 2, .int .i64 x.count] := by
  obtain ⟨A, c, B, d, C, e, g, q0, q1, q2, q3, q4, q5, q6, q7, e9, -⟩ := h
  injection e9 with e9
  exact ⟨A, c, B, d, C, e, g, e9⟩
theorem four_put {w1 : World} {r : Nat} {t : TypeId} {y0 y1 y2 y3 y4 y5 y6 y7 x4 x5 x6 x7 : Value} (hk : CellsAt w1 r t #[y0, y1, y2, y3, y4, y5, y6, y7]) :
    CellsAt ((((w1.setCell ⟨r, 4, none⟩ x4).setCell ⟨r, 5, none⟩ x5).setCell ⟨r, 6, none⟩ x6).setCell ⟨r, 7, none⟩ x7) r t #[y0, y1, y2, y3, x4, x5, x6, x7] ∧
    w1.grownBy ((((w1.setCell ⟨r, 4, none⟩ x4).setCell ⟨r, 5, none⟩ x5).setCell ⟨r, 6, none⟩ x6).setCell ⟨r, 7, none⟩ x7) (some r) := by
  have h := (((hk.set_ 4 x4).set_ 5 x5).set_ 6 x6).set_ 7 x7
  simp only [List.setIfInBounds_toArray, List.set_cons_zero, List.set_cons_succ] at h
  exact ⟨h, gb_set (gb_set (gb_set (gb_set (gb_refl w1 (some r)) 4 x4) 5 x5) 6 x6) 7 x7⟩
set_option maxRecDepth 20000 in
set_option maxHeartbeats 16000000 in
theorem implFormatted_yes (key : Int) (A : Option Addr) (l : List Int) (cap : Nat) (w : World) (hcap : l.length ≤ cap) (hA : Ints w .i64 w.heap.size A l) (hp : planOk key l) :
    Calls Tryz.prog 7 #[.agg #[.int .i64 key, .slice A l.length cap]] w (Ans1 w (some (formatVol key l))) := by
  have hn4 := hp.2.1.2
  have hn1 := hp.2.1.1
  have hco := hp.2.2.1
  have hu4 := hp.2.2.2
  have P0 := fun (u : World) (hb : Below w.heap.size w u) => planOk_calls key A l cap u (by unfold maxLen; omega) hcap ((hA.below hb (Nat.le_refl _)).more hb.size)
  rw [okB_yes hp] at P0
  have PO := Lib.hid P0
  have NT := Lib.hid (fun (u : World) (r : Nat) (hr : r < l.length) (hb : Below w.heap.size w u) => newIc_yes key A l cap hcap r u (by omega) ((hA.below hb (Nat.le_refl _)).more hb.size) hp hr)
  have SO := Lib.hid (fun (u : World) (hb : Below w.heap.size w u) (B : Option Addr) (tc : Nat) (hB : Trs u u.heap.size B (newTrus key l l.length)) => implSealOf_calls key A l cap hcap 1 B (newTrus key l l.length) tc u (by omega) ((hA.below hb (Nat.le_refl _)).more hb.size) (by rw [newTrus_len]; omega) hB (newTrus_i64 hco) ⟨by decide, by decide⟩)
  have HCN := Lib.hid (newCels_len (key := key) hco)
  have UB := Lib.hid (fun k (hk : k ≤ l.length) => upTo_bd hco hk)
  have UM := Lib.hid (fun (i j : Nat) (hij : i ≤ j) (hj : j ≤ l.length) => upTo_mono hco hij hj)
  have CO := Lib.hid hco
  have HI := Lib.hid hA
  have HSH := Lib.hid (formatVol_inv hp).short
  have K0 := Lib.hid (show Kept w [(w.heap.size + 1, 31, #[.int .i64 0, .slice none 0 0, .slice none 0 0, .slice none 0 0, .slice none 0 0, .int .i64 0]), (w.heap.size, 26, #[.int .i64 key, .slice A l.length cap])] _ from (((Kept.refl w).put1 _ _ #[.int .i64 key, .slice A l.length cap] rfl).put1 _ _ #[.int .i64 0, .slice none 0 0, .slice none 0 0, .slice none 0 0, .slice none 0 0, .int .i64 0] (by simp)))
  obtain ⟨fv, hfv⟩ : ∃ fv, fv = formatVol key l := ⟨_, rfl⟩
  rw [← hfv] at HSH ⊢
  have HFV := Lib.hid hfv
  clear hA P0 hco hp hfv
  go_enter Tryz.func7, Tryz.ntmps7
  go_upto_region 1 with fail
  have k0 := K0.out
  clear K0
  generalize World.alloc (World.alloc _ _) _ = w0 at k0 ⊢
  obtain ⟨kc0, kf0, kc1, kf1, -⟩ := k0.rd
  go_wp2_with fail
  refine (PO.out _ k0.1).mono ?_; rintro e u1 ⟨rfl, b1⟩
  have hk1 := k0.below b1
  have lu1 : w.heap.size + 1 < u1.heap.size := hk1.lt (x := (w.heap.size + 1, 31, #[.int .i64 0, .slice none 0 0, .slice none 0 0, .slice none 0 0, .slice none 0 0, .int .i64 0])) (by simp)
  clear b1 k0 kc0 kf0 kc1 kf1
  obtain ⟨kc0, kf0, kc1, kf1, -⟩ := hk1.rd
  have KK := Lib.hid hk1
  clear hk1
  go_wp2_with fail
  go_loopw [16, 3, 4] (fun i s3 s4 u => ∃ (k : Nat) (vT vC : Value), k ≤ l.length ∧ i = .int .i64 k ∧ vT = s3 ∧ vC = s4 ∧ Kept w [(w.heap.size + 1, 31, #[.int .i64 0, .slice none 0 0, .slice none 0 0, .slice none 0 0, .slice none 0 0, .int .i64 0]), (w.heap.size, 26, #[.int .i64 key, .slice A l.length cap])] u ∧ TrRow u (w.heap.size + 1 + 1) vT (newTrus key l k) ∧ ClRow u (w.heap.size + 1 + 1) vC (newCels key l k) ∧ (∀ g, vT.ownBlock = some g → vC.ownBlock ≠ some g)) (fun i _ _ _ => l.length - (intOf i).toNat)
  case atStart => exact ⟨0, _, _, by omega, rfl, rfl, rfl, KK.out, World.ownsRow_nil _ _ _ _, World.ownsRow_nil _ _ _ _, (by intro g h; cases h)⟩
  case round =>
    obtain ⟨k, vT, vC, hk, rfl, rfl, rfl, hkp, htr, hcr, hsp⟩ := hrel
    clear KK kc0 kf0 kc1 kf1
    obtain ⟨kc0, kf0, kc1, kf1, -⟩ := hkp.rd
    have KK := Lib.hid hkp
    have HT := Lib.hid htr
    have HC := Lib.hid hcr
    have HS := Lib.hid hsp
    clear hkp htr hcr hsp
    have lz2 : w.heap.size + 1 < wr.heap.size := KK.out.lt (x := (w.heap.size + 1, 31, #[.int .i64 0, .slice none 0 0, .slice none 0 0, .slice none 0 0, .slice none 0 0, .int .i64 0])) (by simp)
    by_cases hlt : k < l.length
    · have hlt' : (k : Int) < l.length := by omega
      have N0 := fun (u : World) (hb : Below w.heap.size w u) => NT.out u k hlt hb
      have HTR0 : newTru key l k = ⟨l.getD k 0, 0, 0, 0, sumOf key (trisNew key (upTo l k) (l.getD k 0).toNat), 0, 0, false⟩ := rfl
      have HCS0 := newCels_succ key l k
      have hlenN : (cellsNew key (upTo l k) (l.getD k 0).toNat).length ≤ 8 := by rw [cellsNew_length]; have := CO.out k hlt; omega
      generalize cellsNew key (upTo l k) (l.getD k 0).toNat = N at N0 HCS0 hlenN
      generalize sumOf key (trisNew key (upTo l k) (l.getD k 0).toNat) = sm at N0 HTR0
      generalize l.getD k 0 = nv at N0 HTR0
      have N1 := Lib.hid N0
      have HTR := Lib.hid HTR0
      have HCS := Lib.hid HCS0
      clear N0 HTR0 HCS0
      go_wp2_with fail
      refine (N1.out _ KK.out.1).mono ?_; rintro e u4 ⟨v6, rfl, r6, b4⟩
      have hk4 := KK.out.below b4
      have ht4 := HT.out.below b4
      have hc4 := HC.out.below b4
      have lz4 := b4.size
      have oT : ∀ g, vT.ownBlock = some g → (w.heap.size + 1 + 1) ≤ g ∧ g < wr.heap.size := fun g hg => SRow.lt HT.out hg
      have oC : ∀ g, vC.ownBlock = some g → (w.heap.size + 1 + 1) ≤ g ∧ g < wr.heap.size := fun g hg => SRow.lt HC.out hg
      clear KK HT HC b4 kc0 kf0 kc1 kf1
      obtain ⟨A6, c6, rfl, -, -⟩ := SRow.reads ceV_len (show ClRow u4 wr.heap.size v6 N from r6)
      have r6b : ClRow u4 wr.heap.size (.slice A6 N.length c6) N := r6
      clear r6 N1
      have HTS := Lib.hid (newTrus_succ key l k)
      have hlenT := newTrus_len key l k
      have hlenC : (newCels key l k).length ≤ 24 := by have := HCN.out k hk; have := UM.out _ _ hk (Nat.le_refl _); omega
      have hk5 := hk4.put1 u4.heap.size 43 #[.int .i64 nv, .int .i64 0, .int .i64 0, .int .i64 0, .int .i64 sm, .int .i64 0, .int .i64 0, .bool false] rfl
      have ht5 := ht4.alloc (.cells #[.int .i64 nv, .int .i64 0, .int .i64 0, .int .i64 0, .int .i64 sm, .int .i64 0, .int .i64 0, .bool false] 43)
      have hc5 := hc4.alloc (.cells #[.int .i64 nv, .int .i64 0, .int .i64 0, .int .i64 0, .int .i64 sm, .int .i64 0, .int .i64 0, .bool false] 43)
      have hn5 := r6b.alloc (.cells #[.int .i64 nv, .int .i64 0, .int .i64 0, .int .i64 0, .int .i64 sm, .int .i64 0, .int .i64 0, .bool false] 43)
      clear hk4 ht4 hc4 r6b
      go_upto_region 9 with fail
      generalize World.alloc u4 _ = u5 at hk5 ht5 hc5 hn5 ⊢
      have lu5 : u4.heap.size < u5.heap.size := hk5.lt (x := (u4.heap.size, 43, #[.int .i64 nv, .int .i64 0, .int .i64 0, .int .i64 0, .int .i64 sm, .int .i64 0, .int .i64 0, .bool false])) (by simp)
      have hka := hk5.alloc (.cells #[.int .i64 nv, .int .i64 0, .int .i64 0, .int .i64 0, .int .i64 sm, .int .i64 0, .int .i64 0, .bool false] 43)
      have hta := ht5.alloc (.cells #[.int .i64 nv, .int .i64 0, .int .i64 0, .int .i64 0, .int .i64 sm, .int .i64 0, .int .i64 0, .bool false] 43)
      have hca := hc5.alloc (.cells #[.int .i64 nv, .int .i64 0, .int .i64 0, .int .i64 0, .int .i64 sm, .int .i64 0, .int .i64 0, .bool false] 43)
      have hna := hn5.alloc (.cells #[.int .i64 nv, .int .i64 0, .int .i64 0, .int .i64 0, .int .i64 sm, .int .i64 0, .int .i64 0, .bool false] 43)
      have hnew := CellsAt.new u5 43 #[.int .i64 nv, .int .i64 0, .int .i64 0, .int .i64 0, .int .i64 sm, .int .i64 0, .int .i64 0, .bool false]
      obtain ⟨kc0, kf0, kc1, kf1, kc2, kf2, -⟩ := hk5.rd
      obtain ⟨ka0, ja0, ka1, ja1, ka2, ja2, -⟩ := hka.rd
      have HW := Lib.hid (show ∀ j u, [.int .i64 nv, .int .i64 0, .int .i64 0, .int .i64 0, .int .i64 sm, .int .i64 0, .int .i64 0, .bool false][j]? = some u → ∃ ad, some (⟨u5.heap.size, 0, none⟩ : Addr) = some ad ∧ (u5.alloc (.cells #[.int .i64 nv, .int .i64 0, .int .i64 0, .int .i64 0, .int .i64 sm, .int .i64 0, .int .i64 0, .bool false] 43)).cell? (ad.add j) = some u from fun j u hj => ⟨_, rfl, by rw [show Addr.add ⟨u5.heap.size, 0, none⟩ j = ⟨u5.heap.size, j, none⟩ by unfold Addr.add; split <;> simp_all, hnew.cell j]; simpa using hj⟩)
      have KA := Lib.hid hka
      have TA := Lib.hid hta
      have CA := Lib.hid hca
      have NA := Lib.hid hna
      have hza : (u5.alloc (.cells #[.int .i64 nv, .int .i64 0, .int .i64 0, .int .i64 0, .int .i64 sm, .int .i64 0, .int .i64 0, .bool false] 43)).heap.size = u5.heap.size + 1 := by simp
      clear hka hta hca hna hnew hk5 ht5 hc5 hn5
      go_wp2_with (at_builtin; refine wpList_append_row rfl _ _ 27 rfl (w.heap.size + 1 + 1) 43 8 64 (newTrus key l k).length (.agg #[.int .i64 0, .int .i64 0, .int .i64 0, .int .i64 0, .int .i64 0, .int .i64 0, .int .i64 0, .bool false]) vT (flatS truV (newTrus key l k)) (some ⟨u5.heap.size, 0, none⟩) 1 1 [.int .i64 nv, .int .i64 0, .int .i64 0, .int .i64 0, .int .i64 sm, .int .i64 0, .int .i64 0, .bool false] Tryz.underlying27 info_tru rfl (by omega) rfl TA.out rfl rfl HW.out (by simp [Value.oneCell']) (by rw [hlenT]; unfold maxLen; omega) (by rw [hlenT]; omega) (by rw [hza]; omega) ?_)
      intro v7 u7 hown hg7 hat
      have ht7 : TrRow u7 (w.heap.size + 1 + 1) v7 (newTrus key l (k + 1)) := by
        rw [HTS.out]
        show u7.ownsRow _ _ 8 v7 _ _
        rw [List.length_append, flatS_snoc, HTR.out, hlenT]
        exact hown
      obtain ⟨A7, c7, e7, -, -⟩ := ht7.reads truV_len
      rw [newTrus_len] at e7
      subst e7
      have hk7 : Kept w [(w.heap.size + 1, 31, #[.int .i64 0, .slice none 0 0, .slice none 0 0, .slice none 0 0, .slice none 0 0, .int .i64 0]), (w.heap.size, 26, #[.int .i64 key, .slice A l.length cap])] u7 := KA.out.tail.grownO hg7 (fun g e => ⟨by have := oT g e; omega, by have := oT g e; intro y hy; simp at hy; rcases hy with rfl | rfl <;> simp <;> omega⟩)
      have hc7 := SRow.kept CA.out hg7 (by cases e : vC.ownBlock with | none => exact .inl rfl | some q => exact .inr (fun h => HS.out q h.symm e))
      have hn7 := SRow.kept NA.out hg7 (by cases e : (Value.slice A6 N.length c6).ownBlock with | none => exact .inl rfl | some q => exact .inr (fun h => by have h1 := (SRow.lt NA.out e).1; have h2 := (oT q h.symm).2; omega))
      have hs7 : ∀ g, (Value.slice A7 (k + 1) c7).ownBlock = some g → vC.ownBlock ≠ some g := by
        intro g h1 h2
        rcases hat with h | h
        · exact HS.out g (h.symm.trans h1) h2
        · rw [h1] at h; injection h with h; have := (oC g h2).2; omega
      have o7 := fun g (hg : (Value.slice A7 (k + 1) c7).ownBlock = some g) => SRow.lt ht7 hg
      have lz7 := hg7.size
      rw [hza] at lz7
      clear hown hat hg7 HW
      clear KA TA CA NA kc0 kf0 kc1 kf1 kc2 kf2 ka0 ja0 ka1 ja1 ka2 ja2
      have HW := Lib.hid (Sls.news ceV_len (by omega) (row_cls hn7 ceV_len))
      have KK := Lib.hid hk7
      have TT := Lib.hid ht7
      have CC := Lib.hid hc7
      have HS7 := Lib.hid hs7
      clear hk7 ht7 hc7 hn7 hs7
      go_wp2_with (at_builtin; refine wpList_append_row rfl _ _ 28 rfl (w.heap.size + 1 + 1) 68 2 16 (newCels key l k).length (.agg #[.int .i64 0, .int .i64 0]) vC (flatS ceV (newCels key l k)) A6 N.length c6 (flatS ceV N) Tryz.underlying28 info_cel rfl (by omega) rfl CC.out rfl (flatS_length ceV_len) HW.out (ceV_one N) (by unfold maxLen; omega) (by omega) (by omega) ?_)
      intro v9 u9 hown hg9 hat
      have hc9 : ClRow u9 (w.heap.size + 1 + 1) v9 (newCels key l (k + 1)) := by
        rw [HCS.out]
        show u9.ownsRow _ _ 2 v9 _ _
        rw [List.length_append, flatS_append]
        exact hown
      have hk9 := KK.out.grownO hg9 (fun g e => ⟨by have := oC g e; omega, by have := oC g e; intro y hy; simp at hy; rcases hy with rfl | rfl <;> simp <;> omega⟩)
      have ht9 := SRow.kept TT.out hg9 (by cases e : (Value.slice A7 (k + 1) c7).ownBlock with | none => exact .inl rfl | some q => exact .inr (fun h => HS7.out q e h.symm))
      have hs9 : ∀ g, (Value.slice A7 (k + 1) c7).ownBlock = some g → v9.ownBlock ≠ some g := by
        intro g h1 h2
        rcases hat with h | h
        · exact HS7.out g h1 (h.symm.trans h2)
        · rw [h2] at h; injection h with h; have := (o7 g h1).2; omega
      clear hown hat hg9 HW KK TT CC
      have KK := Lib.hid hk9
      have TT := Lib.hid ht9
      have CC := Lib.hid hc9
      have HS9 := Lib.hid hs9
      clear hk9 ht9 hc9 hs9
      go_wp2_with fail
      go_roundw
      case rel => exact ⟨k + 1, _, _, by omega, by go_num, rfl, rfl, KK.out, TT.out, CC.out, HS9.out⟩
      case measure => simp [intOf]; omega
    · obtain rfl : k = l.length := by omega
      obtain ⟨AT, cT, eT, -, -⟩ := HT.out.reads truV_len
      rw [newTrus_len] at eT
      subst eT
      obtain ⟨AC, cC, eC, -, -⟩ := HC.out.reads ceV_len
      subst eC
      clear kc0 kf0 kc1 kf1
      obtain ⟨sl, hsl⟩ : ∃ sl, sl = sealN key l 1 (newTrus key l l.length) := ⟨_, rfl⟩
      obtain ⟨cn, sT, mc⟩ := sl
      have S0 := SO.out
      rw [← hsl] at S0
      have HSL := Lib.hid hsl
      clear hsl SO
      have hlC : ((newCels key l l.length).length : Int) = upTo l l.length := HCN.out _ (Nat.le_refl _)
      have hlC2 : (newCels key l l.length).length ≤ 24 := by omega
      have HT2 := Lib.hid (show TrRow wr (w.heap.size + 1 + 1) (.slice AT (newTrus key l l.length).length cT) (newTrus key l l.length) from by rw [newTrus_len]; exact HT.out)
      generalize hM : newCels key l l.length = M at HC HS hlC2 ⊢
      have HM := Lib.hid hM
      clear hM hlC
      have SO3 := Lib.hid (show ∀ (u : World), Below w.heap.size w u → Trs u u.heap.size AT (newTrus key l l.length) → Calls Tryz.prog 21 #[.agg #[.int .i64 key, .slice A l.length cap], .int .i64 1, .slice AT l.length cT] u (NewSe u cn sT mc) from fun u hb htu => by
        have h := S0 u hb AT cT htu
        rw [newTrus_len] at h
        exact h)
      clear S0
      have kk := KK.out.put1 wr.heap.size 53 #[.int .i64 0, .slice none 0 0, .int .i64 0, .slice none 0 0, .int .i64 0, .slice none 0 0, .int .i64 0, .slice none 0 0] rfl
      have ht := HT2.out.alloc (.cells #[.int .i64 0, .slice none 0 0, .int .i64 0, .slice none 0 0, .int .i64 0, .slice none 0 0, .int .i64 0, .slice none 0 0] 53)
      have hc := HC.out.alloc (.cells #[.int .i64 0, .slice none 0 0, .int .i64 0, .slice none 0 0, .int .i64 0, .slice none 0 0, .int .i64 0, .slice none 0 0] 53)
      have oT : ∀ g, (Value.slice AT (newTrus key l l.length).length cT).ownBlock = some g → g < wr.heap.size := fun g hg => (SRow.lt HT2.out hg).2
      have oC : ∀ g, (Value.slice AC M.length cC).ownBlock = some g → g < wr.heap.size := fun g hg => (SRow.lt HC.out hg).2
      clear KK HT HT2 HC
      go_upto_region 13 with fail
      have HL6 := Lib.hid (show wr.heap.size < (wr.alloc (.cells #[.int .i64 0, .slice none 0 0, .int .i64 0, .slice none 0 0, .int .i64 0, .slice none 0 0, .int .i64 0, .slice none 0 0] 53)).heap.size by simp)
      generalize World.alloc wr _ = u6 at kk ht hc HL6 ⊢
      obtain ⟨kc0, kf0, kc1, kf1, kc2, kf2, -⟩ := kk.rd
      go_wp2_with fail
      refine (SO3.out _ kk.1 (row_cls ht truV_len)).mono ?_; rintro e u7 ⟨A8, c8, rfl, hs8, b7⟩
      have k7 := kk.below b7
      have ht7 := ht.below b7
      have hc7 := hc.below b7
      clear kk ht hc b7 SO3 kc0 kf0 kc1 kf1 kc2 kf2
      obtain ⟨kc0, kf0, kc1, kf1, kc2, kf2, -⟩ := k7.rd
      have lt7 : wr.heap.size < u7.heap.size := k7.lt (x := (wr.heap.size, 53, #[.int .i64 0, .slice none 0 0, .int .i64 0, .slice none 0 0, .int .i64 0, .slice none 0 0, .int .i64 0, .slice none 0 0])) (by simp)
      have l67 : wr.heap.size < u6.heap.size := HL6.out
      go_upto_region 14 with fail
      have p8 := four_put (x4 := .int .i64 cn) (x5 := .slice A8 sT.length c8) (x6 := .int .i64 mc) (x7 := .slice AC M.length cC) (k7.at_ (p := wr.heap.size) (t := 53) (cs := #[.int .i64 0, .slice none 0 0, .int .i64 0, .slice none 0 0, .int .i64 0, .slice none 0 0, .int .i64 0, .slice none 0 0]) (by simp))
      have k8 : Kept w [(wr.heap.size, 53, #[.int .i64 0, .slice none 0 0, .int .i64 0, .slice none 0 0, .int .i64 cn, .slice A8 sT.length c8, .int .i64 mc, .slice AC M.length cC]), (w.heap.size + 1, 31, #[.int .i64 0, .slice none 0 0, .slice none 0 0, .slice none 0 0, .slice none 0 0, .int .i64 0]), (w.heap.size, 26, #[.int .i64 key, .slice A l.length cap])] _ := k7.put (k := 0) rfl (by unfold Apart; simp <;> omega) p8.2 p8.1
      have ht8 := SRow.kept ht7 p8.2 (by cases e : (Value.slice AT (newTrus key l l.length).length cT).ownBlock with | none => exact .inl rfl | some q => exact .inr (fun h => by injection h with h; have := oT q e; omega))
      have hc8 := SRow.kept hc7 p8.2 (by cases e : (Value.slice AC M.length cC).ownBlock with | none => exact .inl rfl | some q => exact .inr (fun h => by injection h with h; have := oC q e; omega))
      have hs8' := SRow.grown hs8 p8.2 (by omega)
      clear k7 ht7 hc7 hs8 p8 kc0 kf0 kc1 kf1 kc2 kf2
      generalize World.setCell _ _ _ = w8 at k8 ht8 hc8 hs8' ⊢
      have hXX : fv = (⟨key, l, newTrus key l l.length, M, ⟨0, [], 0, []⟩, ⟨cn, sT, mc, M⟩, 1⟩ : VolN) := by rw [HFV.out]; unfold formatVol; rw [← HSL.out, HM.out]
      have hsh := HSH.out
      rw [hXX] at hsh
      have arr := k8.at_ (p := wr.heap.size) (t := 53) (cs := #[.int .i64 0, .slice none 0 0, .int .i64 0, .slice none 0 0, .int .i64 cn, .slice A8 sT.length c8, .int .i64 mc, .slice AC M.length cC]) (by simp)
      have tA := row_cls ht8 truV_len
      have tC := row_cls hc8 ceV_len
      have tS := row_cls hs8' truV_len
      have DU0 : ∀ u : World, Below w8.heap.size w8 u → Calls Tryz.prog 22 #[.agg #[.int .i64 key, .slice A l.length cap, .slice AT l.length cT, .slice AC M.length cC, .slice (some ⟨wr.heap.size, 0, none⟩) 2 2, .int .i64 1]] u fun e w' => ∃ cs, e = .returned (.agg cs) ∧ VolO w' u.heap.size fv (.agg cs) ∧ Below u.heap.size u w' := fun u hb => by
        have lA := arr.lt
        have ar := (arr.below hb lA).cell
        have h := duplicate_calls (⟨key, l, newTrus key l l.length, M, ⟨0, [], 0, []⟩, ⟨cn, sT, mc, M⟩, 1⟩ : VolN) A cap AT cT AC cC wr.heap.size 0 2 u hsh ((HI.out.below (k8.1.trans (hb.mono k8.1.size)) (Nat.le_refl _)).more (Nat.le_trans k8.1.size hb.size)) ((tA.below hb (Nat.le_refl _)).more hb.size) ((tC.below hb (Nat.le_refl _)).more hb.size) (Nat.lt_of_lt_of_le lA hb.size)
          ⟨none, 0, none, 0, ar 0, ar 1, ar 2, ar 3, Sls.nil, Sls.nil⟩ ⟨A8, c8, AC, cC, ar 4, ar 5, ar 6, ar 7, (tS.below hb (Nat.le_refl _)).more hb.size, (tC.below hb (Nat.le_refl _)).more hb.size⟩
        rw [show ((⟨key, l, newTrus key l l.length, M, ⟨0, [], 0, []⟩, ⟨cn, sT, mc, M⟩, 1⟩ : VolN)).trusts.length = l.length from newTrus_len key l l.length] at h
        rw [hXX]
        exact h
      have DU := Lib.hid DU0
      have K8 := Lib.hid k8
      obtain ⟨kd0, jd0, kd1, jd1, kd2, jd2, -⟩ := k8.drew.rd
      clear k8 DU0 arr tA tC tS ht8 hc8 hs8' hsh hXX
      go_region_with (go_at_call 22; refine (DU.out _ (Below.refl _ _).drew).mono ?_; rintro e1 wx ⟨cs, rfl, hv, hb⟩; obtain ⟨A9, c9, B9, d9, C9, e9, g9, rfl⟩ := hv.litsF; have k9 := K8.out.drew.below hb; obtain ⟨mc0, mf0, mc1, mf1, mc2, mf2, -⟩ := k9.rd; have K9 := Lib.hid k9; have HV := Lib.hid hv; clear hv hb k9)
      all_goals
        go_wp2_with fail
        obtain ⟨w9, e9', ⟨d0, d1, d2, d3, d4, d5⟩, hb9, hg9⟩ := vol_end (w := w) (x0 := .int .i64 fv.key) (x1 := .slice A9 fv.counts.length c9) (x2 := .slice B9 fv.trusts.length d9) (x3 := .slice C9 fv.cells.length e9) (x4 := .slice (some ⟨g9, 0, none⟩) 2 2) (x5 := .int .i64 fv.count) (K9.out.at_ (p := w.heap.size + 1) (t := 31) (cs := #[.int .i64 0, .slice none 0 0, .slice none 0 0, .slice none 0 0, .slice none 0 0, .int .i64 0]) (by simp)) K9.out.1 (by omega)
        rw [e9']
        have lt1 : w.heap.size + 1 < w8.drew.heap.size := K8.out.drew.lt (x := (w.heap.size + 1, 31, #[.int .i64 0, .slice none 0 0, .slice none 0 0, .slice none 0 0, .slice none 0 0, .int .i64 0])) (by simp)
        exact bodyPost_ret (v := .agg #[.int .i64 fv.key, .slice A9 fv.counts.length c9, .slice B9 fv.trusts.length d9, .slice C9 fv.cells.length e9, .slice (some ⟨g9, 0, none⟩) 2 2, .int .i64 fv.count]) (by simp [results, Tryz.results7, go_sem, d0, d1, d2, d3, d4, d5]) rfl ⟨_, rfl, (HV.out.out hg9 lt1).mono (by omega), hb9⟩
set_option maxRecDepth 20000 in
set_option maxHeartbeats 16000000 in
theorem implFormatted_no (key : Int) (A : Option Addr) (l : List Int) (cap : Nat) (w : World) (hcap : l.length ≤ cap) (hn : l.length ≤ 1048576) (hA : Ints w .i64 w.heap.size A l) (hp : ¬ planOk key l) :
    Calls Tryz.prog 7 #[.agg #[.int .i64 key, .slice A l.length cap]] w (Ans1 w none) := by
  have P0 := fun (u : World) (hb : Below w.heap.size w u) => planOk_calls key A l cap u (by unfold maxLen; omega) hcap ((hA.below hb (Nat.le_refl _)).more hb.size)
  rw [okB_no hp] at P0
  have PO := Lib.hid P0
  have K0 := Lib.hid (show Kept w [(w.heap.size + 1, 31, #[.int .i64 0, .slice none 0 0, .slice none 0 0, .slice none 0 0, .slice none 0 0, .int .i64 0]), (w.heap.size, 26, #[.int .i64 key, .slice A l.length cap])] _ from (((Kept.refl w).put1 _ _ #[.int .i64 key, .slice A l.length cap] rfl).put1 _ _ #[.int .i64 0, .slice none 0 0, .slice none 0 0, .slice none 0 0, .slice none 0 0, .int .i64 0] (by simp)))
  clear hA P0 hp
  go_enter Tryz.func7, Tryz.ntmps7
  go_upto_region 1 with fail
  have k0 := K0.out
  clear K0
  generalize World.alloc (World.alloc _ _) _ = w0 at k0 ⊢
  obtain ⟨kc0, kf0, kc1, kf1, -⟩ := k0.rd
  go_wp2_with fail
  refine (PO.out _ k0.1).mono ?_; rintro e u1 ⟨rfl, b1⟩
  have hk1 := k0.below b1
  clear b1 k0 kc0 kf0 kc1 kf1
  obtain ⟨kc0, kf0, kc1, kf1, -⟩ := hk1.rd
  have KK := Lib.hid hk1
  clear hk1
  go_wp2_with fail
  obtain ⟨w9, e9', ⟨d0, d1, d2, d3, d4, d5⟩, hb9, hg9⟩ := vol_end (w := w) (x0 := .int .i64 0) (x1 := .slice none 0 0) (x2 := .slice none 0 0) (x3 := .slice none 0 0) (x4 := .slice none 0 0) (x5 := .int .i64 0) (KK.out.at_ (p := w.heap.size + 1) (t := 31) (cs := #[.int .i64 0, .slice none 0 0, .slice none 0 0, .slice none 0 0, .slice none 0 0, .int .i64 0]) (by simp)) KK.out.1 (by omega)
  rw [e9']
  exact bodyPost_ret (v := .agg #[.int .i64 0, .slice none 0 0, .slice none 0 0, .slice none 0 0, .slice none 0 0, .int .i64 0]) (by simp [results, Tryz.results7, go_sem, d0, d1, d2, d3, d4, d5]) rfl ⟨_, rfl, rfl, hb9⟩
theorem ansFormatted : AnsFormatted (fun _ => True) := by
  intro key A l cap w hcap hn hA _
  unfold formatG
  by_cases hp : planOk key l
  · rw [if_pos hp]; exact implFormatted_yes key A l cap w hcap hA hp
  · rw [if_neg hp]; exact implFormatted_no key A l cap w hcap hn hA hp
def IsRow (k : IntKind) (w : World) (a : Option Addr) (len cap : Nat) (zs : List Int) : Prop :=
  (a = none ∧ len = 0 ∧ cap = 0 ∧ zs = []) ∨
  ∃ x, a = some x ∧ len ≤ cap ∧ cap ≤ maxLen ∧ zs.length = cap ∧ (∀ i, i < zs.length → w.cell? (x.add i) = some (.int k (zs.getD i 0))) ∧ ∀ n ∈ zs, (Lit.int k n).wf = true
section
variable {H : Type} {enc : TypeId × Value → H} {P : Program} {w : World} {base : Nat} {spare : Nat → Bool} {held : Bool}
theorem int_of_trod {t : TypeId} {n : Nat} {v : Value} {y : DataW H × List MemPlace} (ht : P.underlying t = some (.int .i64)) (h : DataW.trod enc P w base spare held n t [v] = some y) : ∃ a, v = .int .i64 a ∧ I64 a := by
  obtain ⟨z, hc, hx, hw⟩ := DataW.trod_int ht h
  simp at hc
  exact ⟨z, hc, bounds_i64 hw⟩
end
section
variable {H : Type} {enc : TypeId × Value → H} {P : Program} {w : World} {base : Nat} {held : Bool}
theorem row_of_field {t e : TypeId} {k : IntKind} {n : Nat} {v : Value} {y : DataW H × List MemPlace} (ht : P.underlying t = some (.slice e)) (he : P.underlying e = some (.int k)) (hc : P.cellsOf e = 1)
    (h : DataW.trod enc P w base (fun _ => true) held n t [v] = some y) : ∃ a len cap zs, v = .slice a len cap ∧ IsRow k w a len cap zs := by
  rcases open_ints ht he hc h with ⟨hcs, _⟩ | ⟨x, l, c, zs, hcs, _, hl, hm, hz, _, hcell, hwz⟩
  · simp only [List.cons.injEq, and_true] at hcs
    exact ⟨none, 0, 0, [], hcs, .inl ⟨rfl, rfl, rfl, rfl⟩⟩
  · simp only [List.cons.injEq, and_true] at hcs
    exact ⟨some x, l, c, zs, hcs, .inr ⟨_, rfl, hl, hm, by simpa using hz, hcell, hwz⟩⟩
end
theorem IsRow.list {k : IntKind} {w : World} {a : Option Addr} {len cap : Nat} {zs : List Int} (h : IsRow k w a len cap zs) : ∃ l : List Int, len = l.length ∧ Ints w k w.heap.size a l ∧ l.length ≤ maxLen ∧ l.length ≤ cap := by
  rcases h with ⟨rfl, rfl, rfl, rfl⟩ | ⟨x, rfl, hl, hm, hz, hcell, hwz⟩
  · exact ⟨[], rfl, Ints.nil, by simp [maxLen], Nat.le_refl _⟩
  · have hlen : (zs.take len).length = len := by rw [List.length_take]; omega
    exact ⟨zs.take len, hlen.symm, ints_of_row (by omega) hcell, by omega, by omega⟩
end Go.Proofs.YtgaecedhkbneaaaGreat.Mx

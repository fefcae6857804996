/- THE WALK OF laws.FnPlans: it returns true at every code, and writes nothing that was there. -/
import Derived.Test.YtagjgdgkkblidaaPlanT
import Derived.Test.YtagjgdgkkblidaaDrawM
import Derived.Test.YtagjgdgkkblidaaScheme
import Derived.Test.YtagjgdgkkblidaaMixedL
import Derived.Deep.RegionHeld3
import Derived.Deep.CutRange
namespace Go.Proofs.Ytagjgdgkkblidaa.Mx
open Go.ChangeShapes Go.WideShapes Go.ChangeAt Go.RowKit
set_option linter.unusedVariables false

/-- Since world b nothing that was there has turned; two boxes hold two plans; their counts read as they did. -/
def TwoPl (b : World) (p q : Nat) (ka kb : Int) (Aa Ab : Option Addr) (za zb : List Int) (ca cb : Nat) (u : World) : Prop :=
  Below b.heap.size b u ∧ CellsAt u p 26 #[.int .i64 ka, .slice Aa za.length ca] ∧ CellsAt u q 26 #[.int .i64 kb, .slice Ab zb.length cb] ∧ Ints u .i64 u.heap.size Aa za ∧ Ints u .i64 u.heap.size Ab zb
/-- Since world b nothing that was there has turned; the box p holds a plan; its counts read as they did. -/
def OnePl (b : World) (p : Nat) (k : Int) (A : Option Addr) (z : List Int) (c : Nat) (u : World) : Prop :=
  Below b.heap.size b u ∧ CellsAt u p 26 #[.int .i64 k, .slice A z.length c] ∧ Ints u .i64 u.heap.size A z
theorem OnePl.grow {b u v : World} {p c : Nat} {k : Int} {A : Option Addr} {z : List Int} (h : OnePl b p k A z c u) (hb : Below u.heap.size u v) : OnePl b p k A z c v :=
  ⟨h.1.trans (hb.mono h.1.size), h.2.1.below hb h.2.1.lt, (h.2.2.below hb (Nat.le_refl _)).more hb.size⟩
theorem OnePl.cells {b u : World} {p c : Nat} {k : Int} {A : Option Addr} {z : List Int} (h : OnePl b p k A z c u) : u.cell? ⟨p, 0, none⟩ = some (.int .i64 k) ∧ u.cell? ⟨p, 1, none⟩ = some (.slice A z.length c) := ⟨h.2.1.cell 0, h.2.1.cell 1⟩
section
variable {b u v : World} {p q : Nat} {ka kb : Int} {Aa Ab : Option Addr} {za zb : List Int} {ca cb : Nat}
theorem TwoPl.cells (h : TwoPl b p q ka kb Aa Ab za zb ca cb u) : (u.cell? ⟨p, 0, none⟩ = some (.int .i64 ka) ∧ u.cell? ⟨p, 1, none⟩ = some (.slice Aa za.length ca) ∧ u.cell? ⟨q, 0, none⟩ = some (.int .i64 kb) ∧ u.cell? ⟨q, 1, none⟩ = some (.slice Ab zb.length cb)) ∧ TwoPl b p q ka kb Aa Ab za zb ca cb u :=
  ⟨⟨h.2.1.cell 0, h.2.1.cell 1, h.2.2.1.cell 0, h.2.2.1.cell 1⟩, h⟩
theorem TwoPl.keep (hb : Below u.heap.size u v) (h : (u.cell? ⟨p, 0, none⟩ = some (.int .i64 ka) ∧ u.cell? ⟨p, 1, none⟩ = some (.slice Aa za.length ca) ∧ u.cell? ⟨q, 0, none⟩ = some (.int .i64 kb) ∧ u.cell? ⟨q, 1, none⟩ = some (.slice Ab zb.length cb)) ∧ TwoPl b p q ka kb Aa Ab za zb ca cb u) : (v.cell? ⟨p, 0, none⟩ = some (.int .i64 ka) ∧ v.cell? ⟨p, 1, none⟩ = some (.slice Aa za.length ca) ∧ v.cell? ⟨q, 0, none⟩ = some (.int .i64 kb) ∧ v.cell? ⟨q, 1, none⟩ = some (.slice Ab zb.length cb)) ∧ TwoPl b p q ka kb Aa Ab za zb ca cb v :=
  TwoPl.cells ⟨h.2.1.trans (hb.mono h.2.1.size), h.2.2.1.below hb h.2.2.1.lt, h.2.2.2.1.below hb h.2.2.2.1.lt, (h.2.2.2.2.1.below hb (Nat.le_refl _)).more hb.size, (h.2.2.2.2.2.below hb (Nat.le_refl _)).more hb.size⟩
end

set_option maxRecDepth 20000 in
set_option maxHeartbeats 4000000 in
theorem plansLaw_calls (A : Option Addr) (l : List Int) (cap : Nat) (w : World) (hn : l.length ≤ maxLen) (hA : Ints w .u8 w.heap.size A l) (h8 : ∀ i, i < l.length → 0 ≤ l.getD i 0 ∧ l.getD i 0 ≤ 255) :
    Calls Try.prog 3 #[.slice A l.length cap] w fun e w' => e = .returned (.bool true) ∧ Below w.heap.size w w' := by
  by_cases hs : 4096 < l.length
  · go_enter Try.func3, Try.ntmps3
    go_wp2_with fail
    refine (big_yes A l.length cap w hs).mono ?_; rintro e w' ⟨rfl, rfl⟩
    go_wp2_with fail
    go_ret
    exact ⟨rfl, Below.refl _ _⟩
  · have hs' : l.length ≤ 4096 := by omega
    clear hs
    have HN := Lib.hid hn
    have HA := Lib.hid hA
    have H8 := Lib.hid h8
    clear hn hA h8
    go_enter Try.func3, Try.ntmps3
    go_wp2_with fail
    refine (big_no A l.length cap w hs').mono ?_; rintro e w' ⟨rfl, rfl⟩
    go_wp2_with fail
    refine (drawRegion_calls A l cap w HN.out HA.out).mono ?_; rintro e w1 ⟨ka, Aa, za, ca, xa, rfl, ia, la, ma, ha, b1⟩
    have E1 := Lib.hid (b1.alloc b1.size (.cells #[.int .i64 ka, .slice Aa za.length ca] 26))
    have HA1 := Lib.hid ((HA.out.below E1.out (Nat.le_refl _)).more E1.out.size)
    have K1 := Lib.hid (CellsAt.new w1 26 #[.int .i64 ka, .slice Aa za.length ca])
    have I1 := Lib.hid (ha.boxed (.cells #[.int .i64 ka, .slice Aa za.length ca] 26))
    clear b1 ha
    go_wp2_with fail
    refine (drawFirst_calls A l cap _ HN.out HA1.out).mono ?_; rintro e w2 ⟨kb, Ab, zb, cb, xb, rfl, ib, lb, mb, hb, b2⟩
    have T2 := Lib.hid (show TwoPl w w1.heap.size w2.heap.size ka kb Aa Ab za zb ca cb (w2.alloc (.cells #[.int .i64 kb, .slice Ab zb.length cb] 26)).drew from
      ⟨((E1.out.trans (b2.mono E1.out.size)).alloc (Nat.le_trans E1.out.size b2.size) _).drew, (CellsAt.grown (K1.out.below b2 K1.out.lt) (World.grownBy_alloc w2 _ none) (by simp)).drew, (CellsAt.new w2 _ _).drew,
        ((I1.out.below b2 (Nat.le_refl _)).more b2.size).boxed _, hb.boxed _⟩)
    have C0 := Lib.hid (fun u (h : (u.cell? ⟨w1.heap.size, 0, none⟩ = some (.int .i64 ka) ∧ u.cell? ⟨w1.heap.size, 1, none⟩ = some (.slice Aa za.length ca) ∧ u.cell? ⟨w2.heap.size, 0, none⟩ = some (.int .i64 kb) ∧ u.cell? ⟨w2.heap.size, 1, none⟩ = some (.slice Ab zb.length cb)) ∧ TwoPl w w1.heap.size w2.heap.size ka kb Aa Ab za zb ca cb u) => planOk_calls ka Aa za ca u (by unfold maxLen; omega) ma h.2.2.2.2.1)
    have D0 := Lib.hid (fun u (h : (u.cell? ⟨w1.heap.size, 0, none⟩ = some (.int .i64 ka) ∧ u.cell? ⟨w1.heap.size, 1, none⟩ = some (.slice Aa za.length ca) ∧ u.cell? ⟨w2.heap.size, 0, none⟩ = some (.int .i64 kb) ∧ u.cell? ⟨w2.heap.size, 1, none⟩ = some (.slice Ab zb.length cb)) ∧ TwoPl w w1.heap.size w2.heap.size ka kb Aa Ab za zb ca cb u) => specPlanOk_calls ka Aa za ca u (by unfold maxLen; omega) h.2.2.2.2.1)
    have C1 := Lib.hid (fun u (h : (u.cell? ⟨w1.heap.size, 0, none⟩ = some (.int .i64 ka) ∧ u.cell? ⟨w1.heap.size, 1, none⟩ = some (.slice Aa za.length ca) ∧ u.cell? ⟨w2.heap.size, 0, none⟩ = some (.int .i64 kb) ∧ u.cell? ⟨w2.heap.size, 1, none⟩ = some (.slice Ab zb.length cb)) ∧ TwoPl w w1.heap.size w2.heap.size ka kb Aa Ab za zb ca cb u) => sectorsOf_calls ka Aa za ca u (by unfold maxLen; omega) ma h.2.2.2.2.1)
    have D1 := Lib.hid (fun u (h : (u.cell? ⟨w1.heap.size, 0, none⟩ = some (.int .i64 ka) ∧ u.cell? ⟨w1.heap.size, 1, none⟩ = some (.slice Aa za.length ca) ∧ u.cell? ⟨w2.heap.size, 0, none⟩ = some (.int .i64 kb) ∧ u.cell? ⟨w2.heap.size, 1, none⟩ = some (.slice Ab zb.length cb)) ∧ TwoPl w w1.heap.size w2.heap.size ka kb Aa Ab za zb ca cb u) => specSectors_calls ka Aa za ca u (by unfold maxLen; omega) h.2.2.2.2.1)
    have C2 := Lib.hid (fun u (h : (u.cell? ⟨w1.heap.size, 0, none⟩ = some (.int .i64 ka) ∧ u.cell? ⟨w1.heap.size, 1, none⟩ = some (.slice Aa za.length ca) ∧ u.cell? ⟨w2.heap.size, 0, none⟩ = some (.int .i64 kb) ∧ u.cell? ⟨w2.heap.size, 1, none⟩ = some (.slice Ab zb.length cb)) ∧ TwoPl w w1.heap.size w2.heap.size ka kb Aa Ab za zb ca cb u) => regionOf_calls ka xa Aa za ca u (by unfold maxLen; omega) ma h.2.2.2.2.1 ia)
    have D2 := Lib.hid (fun u (h : (u.cell? ⟨w1.heap.size, 0, none⟩ = some (.int .i64 ka) ∧ u.cell? ⟨w1.heap.size, 1, none⟩ = some (.slice Aa za.length ca) ∧ u.cell? ⟨w2.heap.size, 0, none⟩ = some (.int .i64 kb) ∧ u.cell? ⟨w2.heap.size, 1, none⟩ = some (.slice Ab zb.length cb)) ∧ TwoPl w w1.heap.size w2.heap.size ka kb Aa Ab za zb ca cb u) => specRegion_calls ka xa Aa za ca u (by unfold maxLen; omega) ma h.2.2.2.2.1)
    have C3 := Lib.hid (fun u (h : (u.cell? ⟨w1.heap.size, 0, none⟩ = some (.int .i64 ka) ∧ u.cell? ⟨w1.heap.size, 1, none⟩ = some (.slice Aa za.length ca) ∧ u.cell? ⟨w2.heap.size, 0, none⟩ = some (.int .i64 kb) ∧ u.cell? ⟨w2.heap.size, 1, none⟩ = some (.slice Ab zb.length cb)) ∧ TwoPl w w1.heap.size w2.heap.size ka kb Aa Ab za zb ca cb u) => firstOf_calls kb xb Ab zb cb u (by unfold maxLen; omega) mb h.2.2.2.2.2)
    have D3 := Lib.hid (fun u (h : (u.cell? ⟨w1.heap.size, 0, none⟩ = some (.int .i64 ka) ∧ u.cell? ⟨w1.heap.size, 1, none⟩ = some (.slice Aa za.length ca) ∧ u.cell? ⟨w2.heap.size, 0, none⟩ = some (.int .i64 kb) ∧ u.cell? ⟨w2.heap.size, 1, none⟩ = some (.slice Ab zb.length cb)) ∧ TwoPl w w1.heap.size w2.heap.size ka kb Aa Ab za zb ca cb u) => specFirst_calls kb xb Ab zb cb u (by unfold maxLen; omega) mb h.2.2.2.2.2)
    generalize okB ka za = r0 at C0 D0
    generalize sectorsOf ka za = r1 at C1 D1
    generalize regionOf ka za xa = r2 at C2 D2
    generalize firstOf kb zb xb = r3 at C3 D3
    clear b2 hb E1 HA1 K1 I1 ia ib la lb ma mb
    go_upto_region 5 with fail
    go_cut [52] from 23 (fun s u => s = .bool false ∧ TwoPl w w1.heap.size w2.heap.size ka kb Aa Ab za zb ca cb u)
    case first =>
      go_region_held3 (fun u => (u.cell? ⟨w1.heap.size, 0, none⟩ = some (.int .i64 ka) ∧ u.cell? ⟨w1.heap.size, 1, none⟩ = some (.slice Aa za.length ca) ∧ u.cell? ⟨w2.heap.size, 0, none⟩ = some (.int .i64 kb) ∧ u.cell? ⟨w2.heap.size, 1, none⟩ = some (.slice Ab zb.length cb)) ∧ TwoPl w w1.heap.size w2.heap.size ka kb Aa Ab za zb ca cb u)
        (first | exact TwoPl.keep ‹Below _ _ _› ‹_› | exact TwoPl.cells T2.out)
        (first
        | (go_at_call 11; refine (C0.out _ ‹_›).mono ?_; rintro e wx ⟨rfl, bx⟩)
        | (go_at_call 12; refine (D0.out _ ‹_›).mono ?_; rintro e wx ⟨rfl, bx⟩)
        | (go_at_call 13; refine (C1.out _ ‹_›).mono ?_; rintro e wx ⟨rfl, bx⟩)
        | (go_at_call 14; refine (D1.out _ ‹_›).mono ?_; rintro e wx ⟨rfl, bx⟩)
        | (go_at_call 15; refine (C2.out _ ‹_›).mono ?_; rintro e wx ⟨rfl, bx⟩)
        | (go_at_call 16; refine (D2.out _ ‹_›).mono ?_; rintro e wx ⟨rfl, bx⟩)
        | (go_at_call 17; refine (C3.out _ ‹_›).mono ?_; rintro e wx ⟨rfl, bx⟩)
        | (go_at_call 18; refine (D3.out _ ‹_›).mono ?_; rintro e wx ⟨rfl, bx⟩))
      all_goals
        go_wp2_with fail
        go_meet
        obtain ⟨-, TT⟩ := ‹_ ∧ TwoPl _ _ _ _ _ _ _ _ _ _ _ _›
        exact ⟨rfl, TT⟩
    case rest =>
    obtain ⟨rfl, TT⟩ := hcut
    have B3 := Lib.hid TT.1
    clear TT T2 C0 D0 C1 D1 C2 D2 C3 D3
    go_wp2_with fail
    refine (roll_calls A l cap 6 _ HN.out ((HA.out.below B3.out (Nat.le_refl _)).more B3.out.size)).mono ?_; rintro e w4 ⟨rfl, b4, d4⟩
    have B4 := Lib.hid (B3.out.trans (b4.mono B3.out.size))
    have D4 := Lib.hid d4
    have s3 := B3.out.size
    clear b4 d4 B3
    generalize World.heap wc = hp at s3 D4 ⊢
    obtain ⟨g, hg⟩ : ∃ g, g = hp.size := ⟨_, rfl⟩
    rw [← hg] at s3 D4 ⊢
    clear hg
    go_wp2_with fail
    refine (scheme_calls g A l cap w4 HN.out D4.out H8.out).mono ?_; rintro e w5 ⟨key, u, zs, rfl, ok, r5, -, g5⟩
    obtain ⟨Q, c, hq, hI, hc⟩ := r5.reads_cap
    subst hq
    have O5 := Lib.hid (show OnePl w w5.heap.size key Q zs c (w5.alloc (.cells #[.int .i64 key, .slice Q zs.length c] 26)) from
      ⟨(bgb B4.out g5 B4.out.size s3).alloc (Nat.le_trans B4.out.size g5.size) _, CellsAt.new _ _ _, hI.boxed _⟩)
    have OK := Lib.hid ok
    have hl3 := ok.2.1.2
    have F := Lib.hid (fun w (x : Int) (hA : Ints w .i64 w.heap.size Q zs) => firstOf_calls key x Q zs c w (by unfold maxLen; omega) hc hA)
    have R := Lib.hid (fun w (x : Int) (hA : Ints w .i64 w.heap.size Q zs) hx => regionOf_calls key x Q zs c w (by unfold maxLen; omega) hc hA hx)
    have S := Lib.hid (fun w (hA : Ints w .i64 w.heap.size Q zs) => sectorsOf_calls key Q zs c w (by unfold maxLen; omega) hc hA)
    have P := Lib.hid (fun w (hA : Ints w .i64 w.heap.size Q zs) => planOk_calls key Q zs c w (by unfold maxLen; omega) hc hA)
    rw [sectorsOf_yes ok] at S
    rw [okB_yes ok] at P
    clear ok r5 g5 hI D4 B4
    go_wp2_with fail
    go_loopw [8, 9] (fun a i u => ∃ k : Nat, k ≤ zs.length ∧ i = .int .i64 k ∧ a = .int .i64 (upTo zs k) ∧ OnePl w w5.heap.size key Q zs c u) (fun _ i _ => zs.length - (intOf i).toNat)
    case atStart => exact ⟨0, Nat.zero_le _, rfl, by rw [upTo_zero], O5.out⟩
    case round =>
      obtain ⟨k, hk, rfl, rfl, hone⟩ := hrel
      obtain ⟨e0, e1⟩ := hone.cells
      have ON := Lib.hid hone
      clear hone
      have hu := upTo_bd OK.out.2.2.1 hk
      by_cases hlt : k < zs.length
      · have hlt' : (k : Int) < zs.length := by omega
        have hk0 : (0 : Int) ≤ k := by omega
        have FK := F.out wr k ON.out.2.2
        rw [firstOf_yes OK.out hlt] at FK
        have FH := Lib.hid FK
        clear FK
        go_wp2_with fail
        refine FH.out.mono ?_; rintro e wf ⟨rfl, bf⟩
        have OF := Lib.hid (ON.out.grow bf)
        clear bf FH
        go_wp2_with fail
        have hv := OK.out.2.2.1 k hlt
        have HS := Lib.hid (upTo_succ zs hlt)
        have RI := Lib.hid (fun (j : Nat) (hj : (j : Int) < zs.getD k 0) => regionOf_in OK.out hlt (show (0 : Int) ≤ j by omega) hj)
        obtain ⟨v, hvv⟩ : ∃ v, v = zs.getD k 0 := ⟨_, rfl⟩
        rw [← hvv] at hv HS RI
        have HV := Lib.hid hvv
        clear hvv
        obtain ⟨v0, v1⟩ := hv
        go_loopw [8, 10] (fun a b u => ∃ j : Nat, (j : Int) ≤ v ∧ b = .int .i64 j ∧ a = .int .i64 (upTo zs k + j) ∧ OnePl w w5.heap.size key Q zs c u) (fun _ b _ => v.toNat - (intOf b).toNat)
        case atStart => exact ⟨0, by omega, rfl, by simp, OF.out⟩
        case round =>
          obtain ⟨j, hj, rfl, rfl, hone⟩ := hrel
          obtain ⟨e0, e1⟩ := hone.cells
          have OI := Lib.hid hone
          clear hone
          obtain ⟨bq, off, rfl, hbq, hcq⟩ := OI.out.2.2 k hlt
          rw [← HV.out] at hcq
          have hjn : (0 : Int) ≤ j := by omega
          by_cases hjl : (j : Int) < v
          · have RK := R.out wr (upTo zs k + j) OI.out.2.2 ⟨by omega, by omega⟩
            rw [RI.out j hjl] at RK
            have RH := Lib.hid RK
            clear RK
            go_wp2_with fail
            refine RH.out.mono ?_; rintro e wf ⟨rfl, bf⟩
            have OJ := Lib.hid (OI.out.grow bf)
            clear bf RH
            go_wp2_with fail
            go_roundw
            case rel => exact ⟨j + 1, by omega, by go_num, by congr 1; omega, OJ.out⟩
            case measure => simp [intOf]; omega
          · have HE := Lib.hid (show upTo zs k + j = upTo zs (k + 1) by rw [HS.out]; omega)
            go_wp2_with fail
            go_roundw
            case rel => exact ⟨k + 1, by omega, by go_num, by rw [HE.out], OI.out⟩
            case measure => simp [intOf]; omega
      · obtain rfl : k = zs.length := by omega
        have RK := R.out wr (upTo zs zs.length) ON.out.2.2 ⟨by omega, by omega⟩
        rw [regionOf_end OK.out] at RK
        have RH := Lib.hid RK
        clear RK
        go_wp2_with fail
        refine RH.out.mono ?_; rintro e wf ⟨rfl, bf⟩
        have OF := Lib.hid (ON.out.grow bf)
        obtain ⟨e0, e1⟩ := OF.out.cells
        clear bf RH ON
        go_wp2_with fail
        refine (S.out _ OF.out.2.2).mono ?_; rintro e wg ⟨rfl, bg⟩
        have OG := Lib.hid (OF.out.grow bg)
        obtain ⟨e0, e1⟩ := OG.out.cells
        clear bg OF
        go_wp2_with fail
        refine (P.out _ OG.out.2.2).mono ?_; rintro e wh ⟨rfl, bh⟩
        have OH := Lib.hid (OG.out.grow bh)
        clear bh OG
        go_wp2_with fail
        go_ret
        exact ⟨rfl, OH.out.1⟩
end Go.Proofs.Ytagjgdgkkblidaa.Mx

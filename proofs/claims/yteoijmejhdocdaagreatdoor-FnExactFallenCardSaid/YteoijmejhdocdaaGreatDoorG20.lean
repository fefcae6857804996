import Derived.Test.YteoijmejhdocdaaGreatDoorG18
import Derived.Test.YteoijmejhdocdaaGreatDoorG19
import Derived.Test.YteoijmejhdocdaaGreatDoorG15
import Derived.Test.YteoijmejhdocdaaGreatDoorG14
import Derived.Test.YteoijmejhdocdaaGreatDoorG01
import Derived.Test.YteoijmejhdocdaaGreatDoorProg
import Derived.WalkKit
import Derived.LaidEql
import Derived.Stop.Asserts
import Derived.RowKitTokens
import Derived.Test.YteoijmejhdocdaaGreatDoorG06
import Derived.Test.YteoijmejhdocdaaGreatDoorG04
import Derived.Test.YteoijmejhdocdaaGreatDoorG13
import Derived.Test.YteoijmejhdocdaaGreatDoorG02
import Derived.Test.YteoijmejhdocdaaGreatDoorG03
import Derived.Deep.CutRange
import Derived.Test.YteoijmejhdocdaaGreatDoorG16
import Derived.Defers
import Derived.Recover
namespace Go.Proofs.YteoijmejhdocdaaGreatDoor.Mx
open Go.ChangeShapes Go.WideShapes Go.ChangeAt Go.RowKit
set_option linter.unusedVariables false
set_option maxRecDepth 20000 in
set_option maxHeartbeats 2000000 in
theorem slotFits_calls (key : Int) (A : Option Addr) (l : List Int) (cap : Nat) (hcap : l.length ≤ cap) (s : SlN) (B : Option Addr) (tc : Nat) (C : Option Addr) (cc : Nat) (w : World) (hn : l.length ≤ 1048576) (hA : Ints w .i64 w.heap.size A l) (hs : s.Fits) (hr : SlR w w.heap.size B tc C cc s) :
    Calls Tryz.prog 159 #[.agg #[.int .i64 key, .slice A l.length cap], .agg #[.int .i64 s.count, .slice B s.trusts.length tc, .int .i64 s.mac, .slice C s.cells.length cc]] w fun e w' => e = .returned (.bool (fitB key l s.trusts s.cells)) ∧ Below w.heap.size w w' := by
  have K0 := Lib.hid (show Kept w [(w.heap.size + 1, 91, #[.int .i64 s.count, .slice B s.trusts.length tc, .int .i64 s.mac, .slice C s.cells.length cc]), (w.heap.size, 26, #[.int .i64 key, .slice A l.length cap])] _ from (((Kept.refl w).put1 _ _ #[.int .i64 key, .slice A l.length cap] rfl).put1 _ _ #[.int .i64 s.count, .slice B s.trusts.length tc, .int .i64 s.mac, .slice C s.cells.length cc] (by simp)))
  have CL := Lib.hid (fun (u : World) (hb : Below w.heap.size w u) => implCells_calls key A C l cap hcap s.cells cc u (by unfold maxLen; omega) ((hA.below hb (Nat.le_refl _)).more hb.size) (by have := hs.2.1; unfold maxLen; omega) ((hr.2.below hb (Nat.le_refl _)).more hb.size))
  have h1 := hs.1
  have h2 := hs.2.1
  clear hA hn hs hr hcap
  unfold fitB
  have ht : ((s.trusts.length : Int) ≤ 4) ↔ s.trusts.length ≤ 4 := by omega
  have hte : decide ((s.trusts.length : Int) ≤ 4) = decide (s.trusts.length ≤ 4) := decide_eq_decide.2 ht
  by_cases hm : s.cells.length = 0
  · have hm0 : ((s.cells.length : Int) == 0) = true := by rw [hm]; rfl
    rw [decide_eq_true hm, Bool.true_or, Bool.true_and, ← hte]
    clear CL hm
    go_enter Tryz.func159, Tryz.ntmps159
    obtain ⟨kc0, kf0, kc1, kf1, -⟩ := K0.out.rd
    have K1 := Lib.hid K0.out
    go_wp2_with fail
    go_ret
    exact ⟨by simp, K1.out.1⟩
  · have hm0 : ((s.cells.length : Int) == 0) = false := beq_eq_false_iff_ne.2 (by omega)
    rw [decide_eq_false hm, Bool.false_or]
    generalize cellsB key l s.cells = cb at CL ⊢
    cases cb with
    | false =>
      rw [Bool.false_and]
      go_enter Tryz.func159, Tryz.ntmps159
      go_wp2_with fail
      refine (CL.out _ K0.out.1).mono ?_; rintro e uz1 ⟨rfl, bz2⟩
      have hz3 := K0.out.below bz2
      clear bz2
      obtain ⟨kc0, kf0, kc1, kf1, -⟩ := hz3.rd
      go_wp2_with fail
      go_ret
      exact ⟨by simp <;> omega, hz3.1⟩
    | true =>
      rw [Bool.true_and, ← hte]
      go_enter Tryz.func159, Tryz.ntmps159
      go_wp2_with fail
      refine (CL.out _ K0.out.1).mono ?_; rintro e uz1 ⟨rfl, bz2⟩
      have hz3 := K0.out.below bz2
      clear bz2
      obtain ⟨kc0, kf0, kc1, kf1, -⟩ := hz3.rd
      go_wp2_with fail
      go_ret
      exact ⟨by simp <;> omega, hz3.1⟩
set_option maxHeartbeats 2000000 in
theorem slotsFit1_calls (key : Int) (A : Option Addr) (l : List Int) (cap : Nat) (hcap : l.length ≤ cap) (p : Nat) (s : SlN) (B : Option Addr) (tc : Nat) (C : Option Addr) (cc : Nat) (w : World) (hn : l.length ≤ 1048576) (hA : Ints w .i64 w.heap.size A l) (hp : CellsAt w p 26 #[.int .i64 key, .slice A l.length cap]) (hs : s.Fits) (hr : SlR w w.heap.size B tc C cc s) :
    Calls Tryz.prog 158 #[.agg #[.int .i64 s.count, .slice B s.trusts.length tc, .int .i64 s.mac, .slice C s.cells.length cc], .pointer (some ⟨p, 0, none⟩)] w fun e w' => e = .returned (.bool (!fitB key l s.trusts s.cells)) ∧ Below w.heap.size w w' := by
  have K0 := Lib.hid (show Kept w [(w.heap.size, 91, #[.int .i64 s.count, .slice B s.trusts.length tc, .int .i64 s.mac, .slice C s.cells.length cc])] _ from ((Kept.refl w).put1 _ _ #[.int .i64 s.count, .slice B s.trusts.length tc, .int .i64 s.mac, .slice C s.cells.length cc] rfl))
  have CL := Lib.hid (fun (u : World) (hb : Below w.heap.size w u) => slotFits_calls key A l cap hcap s B tc C cc u hn ((hA.below hb (Nat.le_refl _)).more hb.size) hs ⟨(hr.1.below hb (Nat.le_refl _)).more hb.size, (hr.2.below hb (Nat.le_refl _)).more hb.size⟩)
  have HP := Lib.hid hp
  generalize fitB key l s.trusts s.cells = b at CL ⊢
  clear hA hn hs hr hcap hp
  go_enter Tryz.func158, Tryz.ntmps158
  have k0 := K0.out
  obtain ⟨kc0, kf0, -⟩ := k0.rd
  have hc := (HP.out.below k0.1 HP.out.lt).cell
  have K0 := Lib.hid k0
  clear k0
  go_wp2_with fail
  refine (CL.out _ K0.out.1).mono ?_; rintro e w1 ⟨rfl, b1⟩
  have K1 := Lib.hid (K0.out.below b1)
  clear b1
  go_wp2_with fail
  go_ret
  exact ⟨rfl, K1.out.1⟩
def FitTo (key : Int) (l : List Int) (S : List SlN) (k : Nat) : Prop := ∀ i, i < k → fitB key l (S.getD i default).trusts (S.getD i default).cells = true
open Classical in
noncomputable def fitsB (key : Int) (l : List Int) (S : List SlN) : Bool := decide (FitTo key l S S.length)
open Classical in
theorem fitsB_yes {key : Int} {l : List Int} {S : List SlN} (h : FitTo key l S S.length) : fitsB key l S = true := by unfold fitsB; exact decide_eq_true h
open Classical in
theorem fitsB_no {key : Int} {l : List Int} {S : List SlN} (h : ¬ FitTo key l S S.length) : fitsB key l S = false := by unfold fitsB; exact decide_eq_false h
set_option maxRecDepth 20000 in
set_option maxHeartbeats 2000000 in
theorem slots_index (key : Int) (A : Option Addr) (l : List Int) (cap : Nat) (hcap : l.length ≤ cap) (p : Nat) (E : Option Addr) (S : List SlN) (sc : Nat) (w : World) (hn : l.length ≤ 1048576) (hA : Ints w .i64 w.heap.size A l) (hp : CellsAt w p 26 #[.int .i64 key, .slice A l.length cap]) (hS : S.length ≤ 1048576) (hE : Slots w w.heap.size E S) (hF : ∀ i, i < S.length → (S.getD i default).Fits) :
    Calls Tryz.prog 220 #[.slice E S.length sc, .func (.func 158) #[] #[.pointer (some ⟨p, 0, none⟩)]] w fun e w' => (∃ i : Int, e = .returned (.int .i64 i) ∧ decide (0 ≤ i) = !fitsB key l S) ∧ Below w.heap.size w w' := by
  have C := Lib.hid (fun (s : SlN) (B : Option Addr) (tc : Nat) (C : Option Addr) (cc : Nat) (hs : s.Fits) (hr : SlR w w.heap.size B tc C cc s) (u : World) (hb : Below w.heap.size w u) => slotsFit1_calls key A l cap hcap p s B tc C cc u hn ((hA.below hb (Nat.le_refl _)).more hb.size) (hp.below hb hp.lt) hs ⟨(hr.1.below hb (Nat.le_refl _)).more hb.size, (hr.2.below hb (Nat.le_refl _)).more hb.size⟩)
  have HE := Lib.hid hE
  have HF := Lib.hid hF
  clear hA hE hF hp hcap hn
  go_enter Tryz.func220, Tryz.ntmps220
  go_wp2_with fail
  go_loopw [8] (fun i wr => ∃ k : Nat, k ≤ S.length ∧ i = .int .i64 k ∧ FitTo key l S k ∧ Below w.heap.size w wr) (fun i _ => S.length - (intOf i).toNat)
  case atStart => exact ⟨0, Nat.zero_le _, rfl, fun i hi => absurd hi (by omega), Below.refl _ _⟩
  case round =>
    obtain ⟨k, hk, rfl, hup, hz⟩ := hrel
    have HU := Lib.hid hup
    have HZ := Lib.hid hz
    clear hup
    by_cases hlt : k < S.length
    · obtain ⟨b, off, rfl, hb, B, tc, C1, cc, c0, c1, c2, c3, hr⟩ := HE.out k hlt
      have hlt' : (k : Int) < S.length := by omega
      have hk0 : (0 : Int) ≤ k := by omega
      have d0 := (hz.cell (p := ⟨b, off + k * 4, none⟩) hb).trans c0
      have d1 := (hz.cell (p := ⟨b, off + k * 4 + 1, none⟩) hb).trans c1
      have d2 := (hz.cell (p := ⟨b, off + k * 4 + 2, none⟩) hb).trans c2
      have d3 := (hz.cell (p := ⟨b, off + k * 4 + 3, none⟩) hb).trans c3
      clear hz c0 c1 c2 c3
      have TB := Lib.hid (C.out (S.getD k default) B tc C1 cc (HF.out k hlt) hr)
      by_cases hok : fitB key l (S.getD k default).trusts (S.getD k default).cells = true
      · have NX := Lib.hid (show FitTo key l S (k + 1) from fun i hi => by
          rcases Nat.lt_or_ge i k with h | h
          · exact HU.out i h
          · obtain rfl : i = k := by omega
            exact hok)
        rw [hok] at TB
        clear hok HU hr
        generalize S.getD k default = t at TB d0 d1 d2 d3
        go_wp2_with fail
        refine (TB.out _ HZ.out).mono ?_; rintro e w1 ⟨rfl, b1⟩
        have H1 := Lib.hid (HZ.out.trans (b1.mono HZ.out.size))
        clear b1 d0 d1 d2 d3
        go_wp2_with fail
        go_roundw
        case rel => exact ⟨k + 1, by omega, by go_num, NX.out, H1.out⟩
        case measure => simp [intOf]; omega
      · have HX := Lib.hid (show decide ((0 : Int) ≤ k) = !fitsB key l S by rw [decide_eq_true hk0, fitsB_no (fun h => hok (h k hlt))]; rfl)
        rw [show fitB key l (S.getD k default).trusts (S.getD k default).cells = false from by simpa using hok] at TB
        clear hok HU hr
        generalize S.getD k default = t at TB d0 d1 d2 d3
        go_wp2_with fail
        refine (TB.out _ HZ.out).mono ?_; rintro e w1 ⟨rfl, b1⟩
        have H1 := Lib.hid (HZ.out.trans (b1.mono HZ.out.size))
        clear b1 d0 d1 d2 d3
        go_wp2_with fail
        go_ret
        exact ⟨⟨_, rfl, HX.out⟩, H1.out⟩
    · have hk' : k = S.length := by omega
      subst hk'
      have HX := Lib.hid (show decide ((0 : Int) ≤ -1) = !fitsB key l S by rw [fitsB_yes HU.out]; rfl)
      clear HU hz
      go_wp2_with fail
      go_ret
      exact ⟨⟨_, rfl, HX.out⟩, HZ.out⟩
theorem slots_contains (key : Int) (A : Option Addr) (l : List Int) (cap : Nat) (hcap : l.length ≤ cap) (p : Nat) (E : Option Addr) (S : List SlN) (sc : Nat) (w : World) (hn : l.length ≤ 1048576) (hA : Ints w .i64 w.heap.size A l) (hp : CellsAt w p 26 #[.int .i64 key, .slice A l.length cap]) (hS : S.length ≤ 1048576) (hE : Slots w w.heap.size E S) (hF : ∀ i, i < S.length → (S.getD i default).Fits) :
    Calls Tryz.prog 157 #[.slice E S.length sc, .func (.func 158) #[] #[.pointer (some ⟨p, 0, none⟩)]] w fun e w' => e = .returned (.bool (!fitsB key l S)) ∧ Below w.heap.size w w' := by
  have C := Lib.hid (slots_index key A l cap hcap p E S sc w hn hA hp hS hE hF)
  generalize (!fitsB key l S) = b at C
  clear hA hE hF hp hcap hn
  go_enter Tryz.func157, Tryz.ntmps157
  go_wp2_with fail
  refine C.out.mono ?_; rintro e w1 ⟨⟨i, rfl, hi⟩, b1⟩
  have B1 := Lib.hid b1
  clear b1 C
  by_cases h0 : 0 ≤ i
  · rw [decide_eq_true h0] at hi
    subst hi
    go_wp2_with fail
    go_ret
    exact ⟨rfl, B1.out⟩
  · rw [decide_eq_false h0] at hi
    subst hi
    have hneg : decide (0 ≤ i) = false := decide_eq_false h0
    clear h0
    go_wp2_with fail
    go_ret
    exact ⟨by rw [← hneg]; rfl, B1.out⟩
set_option maxRecDepth 20000 in
set_option maxHeartbeats 2000000 in
theorem slotsFit_calls (key : Int) (A : Option Addr) (l : List Int) (cap : Nat) (hcap : l.length ≤ cap) (E : Option Addr) (S : List SlN) (sc : Nat) (w : World) (hn : l.length ≤ 1048576) (hA : Ints w .i64 w.heap.size A l) (hS : S.length ≤ 1048576) (hE : Slots w w.heap.size E S) (hF : ∀ i, i < S.length → (S.getD i default).Fits) :
    Calls Tryz.prog 77 #[.agg #[.int .i64 key, .slice A l.length cap], .slice E S.length sc] w fun e w' => e = .returned (.bool (decide (S.length = 2) && fitsB key l S)) ∧ Below w.heap.size w w' := by
  have hmf : ∀ (fn : Fn) (first cap : Array Value) (w : World), (Instr.makeFunc fn first cap).run Tryz.prog w = .ok (.func fn first cap) w := fun _ _ _ _ => rfl
  have K0 := Lib.hid (show Kept w [(w.heap.size, 26, #[.int .i64 key, .slice A l.length cap])] _ from ((Kept.refl w).put1 _ _ #[.int .i64 key, .slice A l.length cap] rfl))
  have CO := Lib.hid (fun (u : World) (hk : Kept w [(w.heap.size, 26, #[.int .i64 key, .slice A l.length cap])] u) => slots_contains key A l cap hcap w.heap.size E S sc u hn ((hA.below hk.1 (Nat.le_refl _)).more hk.1.size) (hk.at_ (by simp)) hS (fun i hi => by
    obtain ⟨b, off, e, hb, B, tc, C, cc, c0, c1, c2, c3, hr⟩ := hE i hi
    exact ⟨b, off, e, Nat.lt_of_lt_of_le hb hk.1.size, B, tc, C, cc, (hk.1.cell (p := ⟨b, off + i * 4, none⟩) hb).trans c0, (hk.1.cell (p := ⟨b, off + i * 4 + 1, none⟩) hb).trans c1, (hk.1.cell (p := ⟨b, off + i * 4 + 2, none⟩) hb).trans c2, (hk.1.cell (p := ⟨b, off + i * 4 + 3, none⟩) hb).trans c3, (hr.1.below hk.1 (Nat.le_refl _)).more hk.1.size, (hr.2.below hk.1 (Nat.le_refl _)).more hk.1.size⟩) hF)
  clear hA hE hF hcap hn
  by_cases h2 : S.length = 2
  · have hb : ((S.length : Int) == 2) = true := by rw [h2]; rfl
    rw [decide_eq_true h2, Bool.true_and]
    generalize fitsB key l S = b at CO ⊢
    clear h2
    go_enter Tryz.func77, Tryz.ntmps77
    have k0 := K0.out
    clear K0
    obtain ⟨kc0, kf0, -⟩ := k0.rd
    have K0 := Lib.hid k0
    clear k0
    go_wp2_with fail
    refine (CO.out _ K0.out).mono ?_; rintro e w1 ⟨rfl, b1⟩
    have K1 := Lib.hid (K0.out.below b1)
    clear b1
    go_wp2_with fail
    go_ret
    exact ⟨by simp, K1.out.1⟩
  · have hb : ((S.length : Int) == 2) = false := beq_eq_false_iff_ne.2 (by omega)
    rw [decide_eq_false h2, Bool.false_and]
    clear CO h2
    go_enter Tryz.func77, Tryz.ntmps77
    have k0 := K0.out
    clear K0
    obtain ⟨kc0, kf0, -⟩ := k0.rd
    have K0 := Lib.hid k0
    clear k0
    go_wp2_with fail
    go_ret
    exact ⟨rfl, K0.out.1⟩
theorem fitsB_two {key : Int} {l : List Int} {S : List SlN} (h : S.length = 2) : fitsB key l S = (fitB key l (S.getD 0 default).trusts (S.getD 0 default).cells && fitB key l (S.getD 1 default).trusts (S.getD 1 default).cells) := by
  cases h0 : fitB key l (S.getD 0 default).trusts (S.getD 0 default).cells with
  | false => exact fitsB_no (fun hf => by rw [hf 0 (by omega)] at h0; cases h0)
  | true =>
    cases h1 : fitB key l (S.getD 1 default).trusts (S.getD 1 default).cells with
    | false => exact fitsB_no (fun hf => by rw [hf 1 (by omega)] at h1; cases h1)
    | true =>
      refine fitsB_yes (fun i hi => ?_)
      rw [h] at hi
      obtain rfl | rfl : i = 0 ∨ i = 1 := by omega
      · exact h0
      · exact h1
set_option maxRecDepth 20000 in
set_option maxHeartbeats 4000000 in
theorem implVolumeOk_calls (key : Int) (A : Option Addr) (l : List Int) (cap : Nat) (hcap : l.length ≤ cap) (B : Option Addr) (L : List Tru) (tc : Nat) (C : Option Addr) (M : List Ce) (cc : Nat) (E : Option Addr) (S : List SlN) (sc : Nat) (cnt : Int) (w : World)
    (hn : l.length ≤ 1048576) (hA : Ints w .i64 w.heap.size A l) (hL : L.length ≤ 1048576) (hB : Trs w w.heap.size B L) (hM : M.length ≤ 1048576) (hC : Cls w w.heap.size C M) (hS : S.length ≤ 1048576) (hE : Slots w w.heap.size E S) (hF : ∀ i, i < S.length → (S.getD i default).Fits) (hcnt : I64 cnt) :
    Calls Tryz.prog 24 #[.agg #[.int .i64 key, .slice A l.length cap, .slice B L.length tc, .slice C M.length cc, .slice E S.length sc, .int .i64 cnt]] w fun e w' => e = .returned (.bool (volB key l L M S cnt)) ∧ Below w.heap.size w w' := by
  have K0 := Lib.hid (show Kept w [(w.heap.size, 31, #[.int .i64 key, .slice A l.length cap, .slice B L.length tc, .slice C M.length cc, .slice E S.length sc, .int .i64 cnt])] _ from ((Kept.refl w).put1 _ _ #[.int .i64 key, .slice A l.length cap, .slice B L.length tc, .slice C M.length cc, .slice E S.length sc, .int .i64 cnt] rfl))
  have TS := Lib.hid (fun (u : World) (hb : Below w.heap.size w u) => implTrusts_calls key A B l cap hcap L tc u hn ((hA.below hb (Nat.le_refl _)).more hb.size) (by unfold maxLen; omega) ((hB.below hb (Nat.le_refl _)).more hb.size))
  have CL := Lib.hid (fun (u : World) (hb : Below w.heap.size w u) => implCells_calls key A C l cap hcap M cc u (by unfold maxLen; omega) ((hA.below hb (Nat.le_refl _)).more hb.size) (by unfold maxLen; omega) ((hC.below hb (Nat.le_refl _)).more hb.size))
  have SF := Lib.hid (fun (u : World) (hk : Below w.heap.size w u) => slotsFit_calls key A l cap hcap E S sc u hn ((hA.below hk (Nat.le_refl _)).more hk.size) hS (fun i hi => by
    obtain ⟨b, off, e, hb, B, tc, C, cc, c0, c1, c2, c3, hr⟩ := hE i hi
    exact ⟨b, off, e, Nat.lt_of_lt_of_le hb hk.size, B, tc, C, cc, (hk.cell (p := ⟨b, off + i * 4, none⟩) hb).trans c0, (hk.cell (p := ⟨b, off + i * 4 + 1, none⟩) hb).trans c1, (hk.cell (p := ⟨b, off + i * 4 + 2, none⟩) hb).trans c2, (hk.cell (p := ⟨b, off + i * 4 + 3, none⟩) hb).trans c3, (hr.1.below hk (Nat.le_refl _)).more hk.size, (hr.2.below hk (Nat.le_refl _)).more hk.size⟩) hF)
  have IN := Lib.hid (fun (u : World) => isSealCount_calls cnt u hcnt)
  have hv : volB key l L M S cnt = (trustsB key l L && (cellsB key l M && ((decide (S.length = 2) && fitsB key l S) && decide (0 ≤ cnt ∧ cnt ≤ 10000)))) := by
    unfold volB
    by_cases h2 : S.length = 2
    · rw [fitsB_two h2]; simp only [Bool.and_assoc]
    · rw [decide_eq_false h2]; simp
  rw [hv]
  clear hv hA hB hC hE hF hcap hn hL hM hS hcnt
  generalize trustsB key l L = ts at TS ⊢
  generalize cellsB key l M = cs at CL ⊢
  generalize (decide (S.length = 2) && fitsB key l S) = fs at SF ⊢
  generalize decide (0 ≤ cnt ∧ cnt ≤ 10000) = ic at IN ⊢
  cases ts with
  | false =>
    clear CL SF IN
    go_enter Tryz.func24, Tryz.ntmps24
    go_wp2_with fail
    refine (TS.out _ K0.out.1).mono ?_; rintro e uz1 ⟨rfl, bz2⟩
    have hz3 := K0.out.below bz2
    clear bz2
    obtain ⟨kc0, kf0, -⟩ := hz3.rd
    have K9 := Lib.hid hz3
    clear hz3 kc0 kf0
    go_wp2_with fail
    go_ret
    exact ⟨by simp, K9.out.1⟩
  | true =>
    cases cs with
    | false =>
      clear SF IN
      go_enter Tryz.func24, Tryz.ntmps24
      go_wp2_with fail
      refine (TS.out _ K0.out.1).mono ?_; rintro e uz1 ⟨rfl, bz2⟩
      have hz3 := K0.out.below bz2
      clear bz2
      obtain ⟨kc0, kf0, -⟩ := hz3.rd
      go_wp2_with fail
      refine (CL.out _ hz3.1).mono ?_; rintro e uz4 ⟨rfl, bz5⟩
      have hz6 := hz3.below bz5
      clear bz5 hz3 kc0 kf0
      obtain ⟨kc0, kf0, -⟩ := hz6.rd
      have K9 := Lib.hid hz6
      clear hz6 kc0 kf0
      go_wp2_with fail
      go_ret
      exact ⟨by simp, K9.out.1⟩
    | true =>
      cases fs with
      | false =>
        clear IN
        go_enter Tryz.func24, Tryz.ntmps24
        go_wp2_with fail
        refine (TS.out _ K0.out.1).mono ?_; rintro e uz1 ⟨rfl, bz2⟩
        have hz3 := K0.out.below bz2
        clear bz2
        obtain ⟨kc0, kf0, -⟩ := hz3.rd
        go_wp2_with fail
        refine (CL.out _ hz3.1).mono ?_; rintro e uz4 ⟨rfl, bz5⟩
        have hz6 := hz3.below bz5
        clear bz5 hz3 kc0 kf0
        obtain ⟨kc0, kf0, -⟩ := hz6.rd
        go_wp2_with fail
        refine (SF.out _ hz6.1).mono ?_; rintro e uz7 ⟨rfl, bz8⟩
        have hz9 := hz6.below bz8
        clear bz8 hz6 kc0 kf0
        obtain ⟨kc0, kf0, -⟩ := hz9.rd
        have K9 := Lib.hid hz9
        clear hz9 kc0 kf0
        go_wp2_with fail
        go_ret
        exact ⟨by simp, K9.out.1⟩
      | true =>
        go_enter Tryz.func24, Tryz.ntmps24
        go_wp2_with fail
        refine (TS.out _ K0.out.1).mono ?_; rintro e uz1 ⟨rfl, bz2⟩
        have hz3 := K0.out.below bz2
        clear bz2
        obtain ⟨kc0, kf0, -⟩ := hz3.rd
        go_wp2_with fail
        refine (CL.out _ hz3.1).mono ?_; rintro e uz4 ⟨rfl, bz5⟩
        have hz6 := hz3.below bz5
        clear bz5 hz3 kc0 kf0
        obtain ⟨kc0, kf0, -⟩ := hz6.rd
        go_wp2_with fail
        refine (SF.out _ hz6.1).mono ?_; rintro e uz7 ⟨rfl, bz8⟩
        have hz9 := hz6.below bz8
        clear bz8 hz6 kc0 kf0
        obtain ⟨kc0, kf0, -⟩ := hz9.rd
        go_wp2_with fail
        refine (IN.out _).mono ?_; rintro e w' ⟨rfl, rfl⟩
        have K9 := Lib.hid hz9
        clear hz9 kc0 kf0
        go_wp2_with fail
        go_ret
        exact ⟨by simp, K9.out.1⟩
theorem ansVolumeOk : AnsVolumeOk := by
  intro x v w hx hi h
  obtain ⟨A, c, B, d, C, e, E, s, rfl, i1, i2, i3, i4, i5, -⟩ := h
  exact implVolumeOk_calls x.key A x.counts c i5 B x.trusts d C x.cells e E x.slots s x.count w hx.1 i1 hx.2.1 i2 hx.2.2.1 i3 hx.2.2.2.1 i4 (fun i h => (hi.2.1 i h).1) hi.2.2
theorem trustsB_ok {key : Int} {l : List Int} {L : List Tru} (h : trustsB key l L = true) : trustsOk key l L := by
  by_cases e : trustsOk key l L
  · exact e
  · rw [trustsB_no e] at h; cases h
theorem cellsB_ok {key : Int} {l : List Int} {L : List Ce} (h : cellsB key l L = true) : cellsOk key l L := by
  by_cases e : cellsOk key l L
  · exact e
  · rw [cellsB_no e] at h; cases h
theorem fitB_ok {key : Int} {l : List Int} {L : List Tru} {M : List Ce} (h : fitB key l L M = true) : (M = [] ∨ cellsOk key l M) ∧ L.length ≤ 4 := by
  unfold fitB at h
  rw [Bool.and_eq_true, Bool.or_eq_true] at h
  obtain ⟨h1, h2⟩ := h
  refine ⟨?_, of_decide_eq_true h2⟩
  rcases h1 with h1 | h1
  · exact .inl (List.length_eq_zero_iff.1 (of_decide_eq_true h1))
  · exact .inr (cellsB_ok h1)
theorem VolG.inv {x : VolG} (hi : x.Int64) (h : x.okB = true) : x.slots.length = 2 ∧ x.toN.Inv := by
  unfold VolG.okB volB at h
  rw [Bool.and_eq_true, Bool.and_eq_true, Bool.and_eq_true, Bool.and_eq_true, Bool.and_eq_true] at h
  obtain ⟨h1, h2, h3, h4, h5, h6⟩ := h
  have h3 := of_decide_eq_true h3
  have h1 := trustsB_ok h1
  obtain ⟨a1, a2⟩ := fitB_ok h4
  obtain ⟨b1, b2⟩ := fitB_ok h5
  obtain ⟨c1, c2⟩ := hi.2.1 0 (by omega)
  obtain ⟨d1, d2⟩ := hi.2.1 1 (by omega)
  exact ⟨h3, h1.1, h1, cellsB_ok h2, of_decide_eq_true h6, ⟨a1, a2, c1.2.2.1, c1.2.2.2, c2⟩, ⟨b1, b2, d1.2.2.1, d1.2.2.2, d2⟩⟩
theorem RdG.two {w : World} {Bd : Nat} {x : VolG} {v : Value} (h : RdG w Bd x v) (h2 : x.slots.length = 2) :
    ∃ A c B d C e b off s, v = .agg #[.int .i64 x.toN.key, .slice A x.toN.counts.length c, .slice B x.toN.trusts.length d, .slice C x.toN.cells.length e, .slice (some ⟨b, off, none⟩) 2 s, .int .i64 x.toN.count] ∧ Ints w .i64 Bd A x.toN.counts ∧ Trs w Bd B x.toN.trusts ∧ Cls w Bd C x.toN.cells ∧ b < Bd ∧ SlotAt w Bd b off x.toN.s0 ∧ SlotAt w Bd b (off + 4) x.toN.s1 ∧ x.toN.counts.length ≤ c := by
  obtain ⟨A, c, B, d, C, e, E, s, rfl, i1, i2, i3, i4, i5, -⟩ := h
  obtain ⟨b, off, rfl, hb, h0⟩ := i4 0 (by omega)
  obtain ⟨b', off', e1, -, h1⟩ := i4 1 (by omega)
  simp only [Option.some.injEq, Addr.mk.injEq] at e1
  obtain ⟨rfl, rfl, -⟩ := e1
  rw [h2]
  exact ⟨A, c, B, d, C, e, b, off, s, rfl, i1, i2, i3, hb, h0, h1, i5⟩
def Ans2 (b : World) (r : Option VolN × Int) (e : Ending) (w' : World) : Prop := ∃ cs, e = .returned (.tuple #[.agg cs, .int .i64 r.2]) ∧ VolQ w' b.heap.size r.1 (.agg cs) ∧ Below b.heap.size b w'
open Go.RowKit Go.Extern.Stop Go.Stop Go.Extern
theorem cell_lt {w : World} {a : Addr} {v : Value} (h : w.cell? a = some v) : a.block < w.heap.size := by
  rcases Nat.lt_or_ge a.block w.heap.size with h' | h'
  · exact h'
  · simp [World.cell?, Array.getElem?_eq_none h'] at h
-- codeOf: of the sentinels, by their places
theorem steps_storeN {P : Program} {ρ : Operand → Value} {o : Oper} {t : TypeId} {x y : Operand} {w : World} {K : Value → World → Prop} {a : Addr} {z : Value} {n : Int} (hc : w.cell? a = some z) (hf : w.frozen? a = false) (hop : o.op = .store t x y) (hx : ρ x = .pointer (some a)) (hy : ρ y = .int .i64 n) (hi : (P.info? t).map (·.size) = some 1)
    (h : K undef (w.setCell a (.int .i64 n))) : stepsTo P ((execOp ρ o).run P w) K := by
  have e2 : (execOp ρ o).run P w = .ok .skip (w.setCell a (.int .i64 n)) := by
    unfold execOp
    rw [hop]
    obtain ⟨i, hi1, hi2⟩ := Option.map_eq_some_iff.1 hi
    simp [hx, hy, Instr.storeAt, Instr.sureAddr, storeVar, sizeOf, typeInfo, hi1, hi2, Value.cells, storeCells, go_sem, hc, hf, Addr.add]
  rw [e2]
  exact h
theorem VolO.drew {u : World} {base : Nat} {x : VolN} {v : Value} (h : VolO u base x v) : VolO u.drew base x v := h.below ⟨rfl, rfl, rfl, Nat.le_refl _, fun _ _ => rfl⟩
def KV (b : World) (L : List Box) (base : Nat) (x : VolN) (v : Value) (u : World) : Prop := Kept b L u ∧ VolO u base x v
def TurnB (b : Nat) (g : Option Nat) (u v : World) : Prop := v.os = u.os ∧ v.tape = u.tape ∧ v.output = u.output ∧ u.heap.size ≤ v.heap.size ∧ ∀ k, k < b → g ≠ some k → v.heap[k]? = u.heap[k]?
theorem TurnB.trans {b : Nat} {g : Option Nat} {u v w : World} (h : TurnB b g u v) (h' : TurnB b g v w) : TurnB b g u w :=
  ⟨h'.1.trans h.1, h'.2.1.trans h.2.1, h'.2.2.1.trans h.2.2.1, Nat.le_trans h.2.2.2.1 h'.2.2.2.1, fun k hk hr => (h'.2.2.2.2 k hk hr).trans (h.2.2.2.2 k hk hr)⟩
theorem TurnB.of {b : Nat} {g : Option Nat} {u v : World} (h : Below b u v) : TurnB b g u v := ⟨h.os, h.tape, h.output, h.size, fun k hk _ => h.block k hk⟩
theorem TurnB.none {b : Nat} {u v : World} (h : TurnB b none u v) : Below b u v := ⟨h.1, h.2.1, h.2.2.1, h.2.2.2.1, fun k hk => h.2.2.2.2 k hk (by simp)⟩
def WorkA (w : World) (g : Option Nat) (r : Option VolN × Int × Int) (e : Ending) (w' : World) : Prop :=
  ∃ cs, e = .returned (.tuple #[.agg cs, .int .i64 r.2.2]) ∧ VolQ w' w.heap.size r.1 (.agg cs) ∧ TurnB w.heap.size g w w' ∧ ∀ k, g = some k → CellsAt w' k 2 #[.int .i64 r.2.1]
theorem demand_yes (w : World) : Calls Tryz.prog 52 #[.bool true] w fun e w' => e = .returned (.tuple #[]) ∧ w = w' := by
  go_enter Tryz.func52, Tryz.ntmps52
  go_wp2_with fail
  go_end0
  exact ⟨rfl, rfl⟩
theorem catch_panicking (p : Addr) (x : Value) (u : TypeId) (pv : Value) (older : List PanicEntry) (w : World) (hc : w.cell? p = some x) (hz : w.frozen? p = false) :
    CallsD Tryz.prog 124 #[.pointer (some p)] (.panicking ({ v := .iface u pv, recovered := false } :: older)) w fun e u' w' =>
      e = .returned (.tuple #[]) ∧ u' = .panicking ({ v := .iface u pv, recovered := true } :: older) ∧ w' = w.setCell p (.int .i64 1) := by
  refine callsD_of_wpS Tryz.func124 rfl fun c₀ cs hu => ?_
  apply wpS_seq
  apply wpS_region
  simp [wpOpsS, go_sem, recoverD, hu, Tryz.ntmps124, Exit.thenS]
  refine wpS_cond (t := true) (by simp [Act.eval, Array.replicate]) ?_
  simp only [if_true]
  apply wpS_region
  simp [wpOpsS, go_sem, hc, hz, bodyPostS, results, Tryz.results124]
theorem catch_idle (p : Addr) (w : World) :
    CallsD Tryz.prog 124 #[.pointer (some p)] .returning w fun e u' w' => e = .returned (.tuple #[]) ∧ u' = .returning ∧ w' = w := by
  refine callsD_of_wpS Tryz.func124 rfl fun c₀ cs hu => ?_
  apply wpS_seq
  apply wpS_region
  simp [wpOpsS, go_sem, recoverD, hu, Tryz.ntmps124, Exit.thenS]
  refine wpS_cond (t := false) (by simp [Act.eval, Array.replicate]) ?_
  simp only [Bool.false_eq_true, if_false]
  refine wpS_of_wp (wp_skip ?_)
  cases c₀
  simp_all [bodyPostS, results, Tryz.results124]
end Go.Proofs.YteoijmejhdocdaaGreatDoor.Mx

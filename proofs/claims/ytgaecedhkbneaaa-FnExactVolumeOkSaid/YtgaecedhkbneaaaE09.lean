import Derived.Test.YtgaecedhkbneaaaE08
import Derived.Test.YtgaecedhkbneaaaE07
import Derived.Test.YtgaecedhkbneaaaE01
import Derived.Test.YtgaecedhkbneaaaE02
import Derived.OpenShut
import Derived.ShutString
import Derived.ChangeOld
import Derived.Lib.SmallJoins
import Derived.ChangeArms
import Derived.Test.YtgaecedhkbneaaaE03
import Derived.Test.YtgaecedhkbneaaaE05
import Derived.Deep.Slices
import Derived.Deep.Fields
namespace Go.Proofs.Ytgaecedhkbneaaa.Mx
open Go.ChangeShapes Go.WideShapes Go.ChangeAt Go.RowKit
set_option linter.unusedVariables false
set_option maxRecDepth 20000 in
set_option maxHeartbeats 2000000 in
theorem slotFits_calls (key : Int) (A : Option Addr) (l : List Int) (cap : Nat) (hcap : l.length ≤ cap) (s : SlN) (B : Option Addr) (tc : Nat) (C : Option Addr) (cc : Nat) (w : World) (hn : l.length ≤ 1048576) (hA : Ints w .i64 w.heap.size A l) (hs : s.Fits) (hr : SlR w w.heap.size B tc C cc s) :
    Calls Try.prog 46 #[.agg #[.int .i64 key, .slice A l.length cap], .agg #[.int .i64 s.count, .slice B s.trusts.length tc, .int .i64 s.mac, .slice C s.cells.length cc]] w fun e w' => e = .returned (.bool (fitB key l s.trusts s.cells)) ∧ Below w.heap.size w w' := by
  have K0 := Lib.hid (show Kept w [(w.heap.size + 1, 51, #[.int .i64 s.count, .slice B s.trusts.length tc, .int .i64 s.mac, .slice C s.cells.length cc]), (w.heap.size, 32, #[.int .i64 key, .slice A l.length cap])] _ from (((Kept.refl w).put1 _ _ #[.int .i64 key, .slice A l.length cap] rfl).put1 _ _ #[.int .i64 s.count, .slice B s.trusts.length tc, .int .i64 s.mac, .slice C s.cells.length cc] (by simp)))
  have CL := Lib.hid (fun (u : World) (hb : Below w.heap.size w u) => implCells_calls key A C l cap hcap s.cells cc u (by unfold maxLen; omega) ((hA.below hb (Nat.le_refl _)).more hb.size) (by have := hs.2.1; unfold maxLen; omega) ((hr.2.below hb (Nat.le_refl _)).more hb.size))
  have h1 := hs.1
  have h2 := hs.2.1
  clear hA hn hs hr hcap
  unfold fitB
  have ht : ((s.trusts.length : Int) ≤ 4) ↔ s.trusts.length ≤ 4 := by omega
  have hte : decide ((s.trusts.length : Int) ≤ 4) = decide (s.trusts.length ≤ 4) := decide_eq_decide.2 ht
  by_cases hm : s.cells.length = 0
  · have hm0 : ((s.cells.length : Int) == 0) = true := by rw [hm]; rfl
    rw [decide_eq_true hm, Bool.true_or, Bool.true_and, ← hte]
    clear CL hm
    go_enter Try.func46, Try.ntmps46
    obtain ⟨kc0, kf0, kc1, kf1, -⟩ := K0.out.rd
    have K1 := Lib.hid K0.out
    go_wp2_with fail
    go_ret
    exact ⟨by simp, K1.out.1⟩
  · have hm0 : ((s.cells.length : Int) == 0) = false := beq_eq_false_iff_ne.2 (by omega)
    rw [decide_eq_false hm, Bool.false_or]
    generalize cellsB key l s.cells = cb at CL ⊢
    cases cb with
    | false =>
      rw [Bool.false_and]
      go_enter Try.func46, Try.ntmps46
      go_wp2_with fail
      refine (CL.out _ K0.out.1).mono ?_; rintro e uz1 ⟨rfl, bz2⟩
      have hz3 := K0.out.below bz2
      clear bz2
      obtain ⟨kc0, kf0, kc1, kf1, -⟩ := hz3.rd
      go_wp2_with fail
      go_ret
      exact ⟨by simp <;> omega, hz3.1⟩
    | true =>
      rw [Bool.true_and, ← hte]
      go_enter Try.func46, Try.ntmps46
      go_wp2_with fail
      refine (CL.out _ K0.out.1).mono ?_; rintro e uz1 ⟨rfl, bz2⟩
      have hz3 := K0.out.below bz2
      clear bz2
      obtain ⟨kc0, kf0, kc1, kf1, -⟩ := hz3.rd
      go_wp2_with fail
      go_ret
      exact ⟨by simp <;> omega, hz3.1⟩
set_option maxHeartbeats 2000000 in
theorem slotsFit1_calls (key : Int) (A : Option Addr) (l : List Int) (cap : Nat) (hcap : l.length ≤ cap) (p : Nat) (s : SlN) (B : Option Addr) (tc : Nat) (C : Option Addr) (cc : Nat) (w : World) (hn : l.length ≤ 1048576) (hA : Ints w .i64 w.heap.size A l) (hp : CellsAt w p 32 #[.int .i64 key, .slice A l.length cap]) (hs : s.Fits) (hr : SlR w w.heap.size B tc C cc s) :
    Calls Try.prog 45 #[.agg #[.int .i64 s.count, .slice B s.trusts.length tc, .int .i64 s.mac, .slice C s.cells.length cc], .pointer (some ⟨p, 0, none⟩)] w fun e w' => e = .returned (.bool (!fitB key l s.trusts s.cells)) ∧ Below w.heap.size w w' := by
  have K0 := Lib.hid (show Kept w [(w.heap.size, 51, #[.int .i64 s.count, .slice B s.trusts.length tc, .int .i64 s.mac, .slice C s.cells.length cc])] _ from ((Kept.refl w).put1 _ _ #[.int .i64 s.count, .slice B s.trusts.length tc, .int .i64 s.mac, .slice C s.cells.length cc] rfl))
  have CL := Lib.hid (fun (u : World) (hb : Below w.heap.size w u) => slotFits_calls key A l cap hcap s B tc C cc u hn ((hA.below hb (Nat.le_refl _)).more hb.size) hs ⟨(hr.1.below hb (Nat.le_refl _)).more hb.size, (hr.2.below hb (Nat.le_refl _)).more hb.size⟩)
  have HP := Lib.hid hp
  generalize fitB key l s.trusts s.cells = b at CL ⊢
  clear hA hn hs hr hcap hp
  go_enter Try.func45, Try.ntmps45
  have k0 := K0.out
  obtain ⟨kc0, kf0, -⟩ := k0.rd
  have hc := (HP.out.below k0.1 HP.out.lt).cell
  have K0 := Lib.hid k0
  clear k0
  go_wp2_with fail
  refine (CL.out _ K0.out.1).mono ?_; rintro e w1 ⟨rfl, b1⟩
  have K1 := Lib.hid (K0.out.below b1)
  clear b1
  go_wp2_with fail
  go_ret
  exact ⟨rfl, K1.out.1⟩
def FitTo (key : Int) (l : List Int) (S : List SlN) (k : Nat) : Prop := ∀ i, i < k → fitB key l (S.getD i default).trusts (S.getD i default).cells = true
open Classical in
noncomputable def fitsB (key : Int) (l : List Int) (S : List SlN) : Bool := decide (FitTo key l S S.length)
open Classical in
theorem fitsB_yes {key : Int} {l : List Int} {S : List SlN} (h : FitTo key l S S.length) : fitsB key l S = true := by unfold fitsB; exact decide_eq_true h
open Classical in
theorem fitsB_no {key : Int} {l : List Int} {S : List SlN} (h : ¬ FitTo key l S S.length) : fitsB key l S = false := by unfold fitsB; exact decide_eq_false h
set_option maxRecDepth 20000 in
set_option maxHeartbeats 2000000 in
theorem slots_index (key : Int) (A : Option Addr) (l : List Int) (cap : Nat) (hcap : l.length ≤ cap) (p : Nat) (E : Option Addr) (S : List SlN) (sc : Nat) (w : World) (hn : l.length ≤ 1048576) (hA : Ints w .i64 w.heap.size A l) (hp : CellsAt w p 32 #[.int .i64 key, .slice A l.length cap]) (hS : S.length ≤ 1048576) (hE : Slots w w.heap.size E S) (hF : ∀ i, i < S.length → (S.getD i default).Fits) :
    Calls Try.prog 66 #[.slice E S.length sc, .func (.func 45) #[] #[.pointer (some ⟨p, 0, none⟩)]] w fun e w' => (∃ i : Int, e = .returned (.int .i64 i) ∧ decide (0 ≤ i) = !fitsB key l S) ∧ Below w.heap.size w w' := by
  have C := Lib.hid (fun (s : SlN) (B : Option Addr) (tc : Nat) (C : Option Addr) (cc : Nat) (hs : s.Fits) (hr : SlR w w.heap.size B tc C cc s) (u : World) (hb : Below w.heap.size w u) => slotsFit1_calls key A l cap hcap p s B tc C cc u hn ((hA.below hb (Nat.le_refl _)).more hb.size) (hp.below hb hp.lt) hs ⟨(hr.1.below hb (Nat.le_refl _)).more hb.size, (hr.2.below hb (Nat.le_refl _)).more hb.size⟩)
  have HE := Lib.hid hE
  have HF := Lib.hid hF
  clear hA hE hF hp hcap hn
  go_enter Try.func66, Try.ntmps66
  go_wp2_with fail
  go_loopw [8] (fun i wr => ∃ k : Nat, k ≤ S.length ∧ i = .int .i64 k ∧ FitTo key l S k ∧ Below w.heap.size w wr) (fun i _ => S.length - (intOf i).toNat)
  case atStart => exact ⟨0, Nat.zero_le _, rfl, fun i hi => absurd hi (by omega), Below.refl _ _⟩
  case round =>
    obtain ⟨k, hk, rfl, hup, hz⟩ := hrel
    have HU := Lib.hid hup
    have HZ := Lib.hid hz
    clear hup
    by_cases hlt : k < S.length
    · obtain ⟨b, off, rfl, hb, B, tc, C1, cc, c0, c1, c2, c3, hr⟩ := HE.out k hlt
      have hlt' : (k : Int) < S.length := by omega
      have hk0 : (0 : Int) ≤ k := by omega
      have d0 := (hz.cell (p := ⟨b, off + k * 4, none⟩) hb).trans c0
      have d1 := (hz.cell (p := ⟨b, off + k * 4 + 1, none⟩) hb).trans c1
      have d2 := (hz.cell (p := ⟨b, off + k * 4 + 2, none⟩) hb).trans c2
      have d3 := (hz.cell (p := ⟨b, off + k * 4 + 3, none⟩) hb).trans c3
      clear hz c0 c1 c2 c3
      have TB := Lib.hid (C.out (S.getD k default) B tc C1 cc (HF.out k hlt) hr)
      by_cases hok : fitB key l (S.getD k default).trusts (S.getD k default).cells = true
      · have NX := Lib.hid (show FitTo key l S (k + 1) from fun i hi => by
          rcases Nat.lt_or_ge i k with h | h
          · exact HU.out i h
          · obtain rfl : i = k := by omega
            exact hok)
        rw [hok] at TB
        clear hok HU hr
        generalize S.getD k default = t at TB d0 d1 d2 d3
        go_wp2_with fail
        refine (TB.out _ HZ.out).mono ?_; rintro e w1 ⟨rfl, b1⟩
        have H1 := Lib.hid (HZ.out.trans (b1.mono HZ.out.size))
        clear b1 d0 d1 d2 d3
        go_wp2_with fail
        go_roundw
        case rel => exact ⟨k + 1, by omega, by go_num, NX.out, H1.out⟩
        case measure => simp [intOf]; omega
      · have HX := Lib.hid (show decide ((0 : Int) ≤ k) = !fitsB key l S by rw [decide_eq_true hk0, fitsB_no (fun h => hok (h k hlt))]; rfl)
        rw [show fitB key l (S.getD k default).trusts (S.getD k default).cells = false from by simpa using hok] at TB
        clear hok HU hr
        generalize S.getD k default = t at TB d0 d1 d2 d3
        go_wp2_with fail
        refine (TB.out _ HZ.out).mono ?_; rintro e w1 ⟨rfl, b1⟩
        have H1 := Lib.hid (HZ.out.trans (b1.mono HZ.out.size))
        clear b1 d0 d1 d2 d3
        go_wp2_with fail
        go_ret
        exact ⟨⟨_, rfl, HX.out⟩, H1.out⟩
    · have hk' : k = S.length := by omega
      subst hk'
      have HX := Lib.hid (show decide ((0 : Int) ≤ -1) = !fitsB key l S by rw [fitsB_yes HU.out]; rfl)
      clear HU hz
      go_wp2_with fail
      go_ret
      exact ⟨⟨_, rfl, HX.out⟩, HZ.out⟩
theorem slots_contains (key : Int) (A : Option Addr) (l : List Int) (cap : Nat) (hcap : l.length ≤ cap) (p : Nat) (E : Option Addr) (S : List SlN) (sc : Nat) (w : World) (hn : l.length ≤ 1048576) (hA : Ints w .i64 w.heap.size A l) (hp : CellsAt w p 32 #[.int .i64 key, .slice A l.length cap]) (hS : S.length ≤ 1048576) (hE : Slots w w.heap.size E S) (hF : ∀ i, i < S.length → (S.getD i default).Fits) :
    Calls Try.prog 44 #[.slice E S.length sc, .func (.func 45) #[] #[.pointer (some ⟨p, 0, none⟩)]] w fun e w' => e = .returned (.bool (!fitsB key l S)) ∧ Below w.heap.size w w' := by
  have C := Lib.hid (slots_index key A l cap hcap p E S sc w hn hA hp hS hE hF)
  generalize (!fitsB key l S) = b at C
  clear hA hE hF hp hcap hn
  go_enter Try.func44, Try.ntmps44
  go_wp2_with fail
  refine C.out.mono ?_; rintro e w1 ⟨⟨i, rfl, hi⟩, b1⟩
  have B1 := Lib.hid b1
  clear b1 C
  by_cases h0 : 0 ≤ i
  · rw [decide_eq_true h0] at hi
    subst hi
    go_wp2_with fail
    go_ret
    exact ⟨rfl, B1.out⟩
  · rw [decide_eq_false h0] at hi
    subst hi
    have hneg : decide (0 ≤ i) = false := decide_eq_false h0
    clear h0
    go_wp2_with fail
    go_ret
    exact ⟨by rw [← hneg]; rfl, B1.out⟩
set_option maxRecDepth 20000 in
set_option maxHeartbeats 2000000 in
theorem slotsFit_calls (key : Int) (A : Option Addr) (l : List Int) (cap : Nat) (hcap : l.length ≤ cap) (E : Option Addr) (S : List SlN) (sc : Nat) (w : World) (hn : l.length ≤ 1048576) (hA : Ints w .i64 w.heap.size A l) (hS : S.length ≤ 1048576) (hE : Slots w w.heap.size E S) (hF : ∀ i, i < S.length → (S.getD i default).Fits) :
    Calls Try.prog 23 #[.agg #[.int .i64 key, .slice A l.length cap], .slice E S.length sc] w fun e w' => e = .returned (.bool (decide (S.length = 2) && fitsB key l S)) ∧ Below w.heap.size w w' := by
  have hmf : ∀ (fn : Fn) (first cap : Array Value) (w : World), (Instr.makeFunc fn first cap).run Try.prog w = .ok (.func fn first cap) w := fun _ _ _ _ => rfl
  have K0 := Lib.hid (show Kept w [(w.heap.size, 32, #[.int .i64 key, .slice A l.length cap])] _ from ((Kept.refl w).put1 _ _ #[.int .i64 key, .slice A l.length cap] rfl))
  have CO := Lib.hid (fun (u : World) (hk : Kept w [(w.heap.size, 32, #[.int .i64 key, .slice A l.length cap])] u) => slots_contains key A l cap hcap w.heap.size E S sc u hn ((hA.below hk.1 (Nat.le_refl _)).more hk.1.size) (hk.at_ (by simp)) hS (fun i hi => by
    obtain ⟨b, off, e, hb, B, tc, C, cc, c0, c1, c2, c3, hr⟩ := hE i hi
    exact ⟨b, off, e, Nat.lt_of_lt_of_le hb hk.1.size, B, tc, C, cc, (hk.1.cell (p := ⟨b, off + i * 4, none⟩) hb).trans c0, (hk.1.cell (p := ⟨b, off + i * 4 + 1, none⟩) hb).trans c1, (hk.1.cell (p := ⟨b, off + i * 4 + 2, none⟩) hb).trans c2, (hk.1.cell (p := ⟨b, off + i * 4 + 3, none⟩) hb).trans c3, (hr.1.below hk.1 (Nat.le_refl _)).more hk.1.size, (hr.2.below hk.1 (Nat.le_refl _)).more hk.1.size⟩) hF)
  clear hA hE hF hcap hn
  by_cases h2 : S.length = 2
  · have hb : ((S.length : Int) == 2) = true := by rw [h2]; rfl
    rw [decide_eq_true h2, Bool.true_and]
    generalize fitsB key l S = b at CO ⊢
    clear h2
    go_enter Try.func23, Try.ntmps23
    have k0 := K0.out
    clear K0
    obtain ⟨kc0, kf0, -⟩ := k0.rd
    have K0 := Lib.hid k0
    clear k0
    go_wp2_with fail
    refine (CO.out _ K0.out).mono ?_; rintro e w1 ⟨rfl, b1⟩
    have K1 := Lib.hid (K0.out.below b1)
    clear b1
    go_wp2_with fail
    go_ret
    exact ⟨by simp, K1.out.1⟩
  · have hb : ((S.length : Int) == 2) = false := beq_eq_false_iff_ne.2 (by omega)
    rw [decide_eq_false h2, Bool.false_and]
    clear CO h2
    go_enter Try.func23, Try.ntmps23
    have k0 := K0.out
    clear K0
    obtain ⟨kc0, kf0, -⟩ := k0.rd
    have K0 := Lib.hid k0
    clear k0
    go_wp2_with fail
    go_ret
    exact ⟨rfl, K0.out.1⟩
theorem fitsB_two {key : Int} {l : List Int} {S : List SlN} (h : S.length = 2) : fitsB key l S = (fitB key l (S.getD 0 default).trusts (S.getD 0 default).cells && fitB key l (S.getD 1 default).trusts (S.getD 1 default).cells) := by
  cases h0 : fitB key l (S.getD 0 default).trusts (S.getD 0 default).cells with
  | false => exact fitsB_no (fun hf => by rw [hf 0 (by omega)] at h0; cases h0)
  | true =>
    cases h1 : fitB key l (S.getD 1 default).trusts (S.getD 1 default).cells with
    | false => exact fitsB_no (fun hf => by rw [hf 1 (by omega)] at h1; cases h1)
    | true =>
      refine fitsB_yes (fun i hi => ?_)
      rw [h] at hi
      obtain rfl | rfl : i = 0 ∨ i = 1 := by omega
      · exact h0
      · exact h1
set_option maxRecDepth 20000 in
set_option maxHeartbeats 4000000 in
theorem implVolumeOk_calls (key : Int) (A : Option Addr) (l : List Int) (cap : Nat) (hcap : l.length ≤ cap) (B : Option Addr) (L : List Tru) (tc : Nat) (C : Option Addr) (M : List Ce) (cc : Nat) (E : Option Addr) (S : List SlN) (sc : Nat) (cnt : Int) (w : World)
    (hn : l.length ≤ 1048576) (hA : Ints w .i64 w.heap.size A l) (hL : L.length ≤ 1048576) (hB : Trs w w.heap.size B L) (hM : M.length ≤ 1048576) (hC : Cls w w.heap.size C M) (hS : S.length ≤ 1048576) (hE : Slots w w.heap.size E S) (hF : ∀ i, i < S.length → (S.getD i default).Fits) (hcnt : I64 cnt) :
    Calls Try.prog 7 #[.agg #[.int .i64 key, .slice A l.length cap, .slice B L.length tc, .slice C M.length cc, .slice E S.length sc, .int .i64 cnt]] w fun e w' => e = .returned (.bool (volB key l L M S cnt)) ∧ Below w.heap.size w w' := by
  have K0 := Lib.hid (show Kept w [(w.heap.size, 37, #[.int .i64 key, .slice A l.length cap, .slice B L.length tc, .slice C M.length cc, .slice E S.length sc, .int .i64 cnt])] _ from ((Kept.refl w).put1 _ _ #[.int .i64 key, .slice A l.length cap, .slice B L.length tc, .slice C M.length cc, .slice E S.length sc, .int .i64 cnt] rfl))
  have TS := Lib.hid (fun (u : World) (hb : Below w.heap.size w u) => implTrusts_calls key A B l cap hcap L tc u hn ((hA.below hb (Nat.le_refl _)).more hb.size) (by unfold maxLen; omega) ((hB.below hb (Nat.le_refl _)).more hb.size))
  have CL := Lib.hid (fun (u : World) (hb : Below w.heap.size w u) => implCells_calls key A C l cap hcap M cc u (by unfold maxLen; omega) ((hA.below hb (Nat.le_refl _)).more hb.size) (by unfold maxLen; omega) ((hC.below hb (Nat.le_refl _)).more hb.size))
  have SF := Lib.hid (fun (u : World) (hk : Below w.heap.size w u) => slotsFit_calls key A l cap hcap E S sc u hn ((hA.below hk (Nat.le_refl _)).more hk.size) hS (fun i hi => by
    obtain ⟨b, off, e, hb, B, tc, C, cc, c0, c1, c2, c3, hr⟩ := hE i hi
    exact ⟨b, off, e, Nat.lt_of_lt_of_le hb hk.size, B, tc, C, cc, (hk.cell (p := ⟨b, off + i * 4, none⟩) hb).trans c0, (hk.cell (p := ⟨b, off + i * 4 + 1, none⟩) hb).trans c1, (hk.cell (p := ⟨b, off + i * 4 + 2, none⟩) hb).trans c2, (hk.cell (p := ⟨b, off + i * 4 + 3, none⟩) hb).trans c3, (hr.1.below hk (Nat.le_refl _)).more hk.size, (hr.2.below hk (Nat.le_refl _)).more hk.size⟩) hF)
  have IN := Lib.hid (fun (u : World) => isSealCount_calls cnt u hcnt)
  have hv : volB key l L M S cnt = (trustsB key l L && (cellsB key l M && ((decide (S.length = 2) && fitsB key l S) && decide (0 ≤ cnt ∧ cnt ≤ 10000)))) := by
    unfold volB
    by_cases h2 : S.length = 2
    · rw [fitsB_two h2]; simp only [Bool.and_assoc]
    · rw [decide_eq_false h2]; simp
  rw [hv]
  clear hv hA hB hC hE hF hcap hn hL hM hS hcnt
  generalize trustsB key l L = ts at TS ⊢
  generalize cellsB key l M = cs at CL ⊢
  generalize (decide (S.length = 2) && fitsB key l S) = fs at SF ⊢
  generalize decide (0 ≤ cnt ∧ cnt ≤ 10000) = ic at IN ⊢
  cases ts with
  | false =>
    clear CL SF IN
    go_enter Try.func7, Try.ntmps7
    go_wp2_with fail
    refine (TS.out _ K0.out.1).mono ?_; rintro e uz1 ⟨rfl, bz2⟩
    have hz3 := K0.out.below bz2
    clear bz2
    obtain ⟨kc0, kf0, -⟩ := hz3.rd
    have K9 := Lib.hid hz3
    clear hz3 kc0 kf0
    go_wp2_with fail
    go_ret
    exact ⟨by simp, K9.out.1⟩
  | true =>
    cases cs with
    | false =>
      clear SF IN
      go_enter Try.func7, Try.ntmps7
      go_wp2_with fail
      refine (TS.out _ K0.out.1).mono ?_; rintro e uz1 ⟨rfl, bz2⟩
      have hz3 := K0.out.below bz2
      clear bz2
      obtain ⟨kc0, kf0, -⟩ := hz3.rd
      go_wp2_with fail
      refine (CL.out _ hz3.1).mono ?_; rintro e uz4 ⟨rfl, bz5⟩
      have hz6 := hz3.below bz5
      clear bz5 hz3 kc0 kf0
      obtain ⟨kc0, kf0, -⟩ := hz6.rd
      have K9 := Lib.hid hz6
      clear hz6 kc0 kf0
      go_wp2_with fail
      go_ret
      exact ⟨by simp, K9.out.1⟩
    | true =>
      cases fs with
      | false =>
        clear IN
        go_enter Try.func7, Try.ntmps7
        go_wp2_with fail
        refine (TS.out _ K0.out.1).mono ?_; rintro e uz1 ⟨rfl, bz2⟩
        have hz3 := K0.out.below bz2
        clear bz2
        obtain ⟨kc0, kf0, -⟩ := hz3.rd
        go_wp2_with fail
        refine (CL.out _ hz3.1).mono ?_; rintro e uz4 ⟨rfl, bz5⟩
        have hz6 := hz3.below bz5
        clear bz5 hz3 kc0 kf0
        obtain ⟨kc0, kf0, -⟩ := hz6.rd
        go_wp2_with fail
        refine (SF.out _ hz6.1).mono ?_; rintro e uz7 ⟨rfl, bz8⟩
        have hz9 := hz6.below bz8
        clear bz8 hz6 kc0 kf0
        obtain ⟨kc0, kf0, -⟩ := hz9.rd
        have K9 := Lib.hid hz9
        clear hz9 kc0 kf0
        go_wp2_with fail
        go_ret
        exact ⟨by simp, K9.out.1⟩
      | true =>
        go_enter Try.func7, Try.ntmps7
        go_wp2_with fail
        refine (TS.out _ K0.out.1).mono ?_; rintro e uz1 ⟨rfl, bz2⟩
        have hz3 := K0.out.below bz2
        clear bz2
        obtain ⟨kc0, kf0, -⟩ := hz3.rd
        go_wp2_with fail
        refine (CL.out _ hz3.1).mono ?_; rintro e uz4 ⟨rfl, bz5⟩
        have hz6 := hz3.below bz5
        clear bz5 hz3 kc0 kf0
        obtain ⟨kc0, kf0, -⟩ := hz6.rd
        go_wp2_with fail
        refine (SF.out _ hz6.1).mono ?_; rintro e uz7 ⟨rfl, bz8⟩
        have hz9 := hz6.below bz8
        clear bz8 hz6 kc0 kf0
        obtain ⟨kc0, kf0, -⟩ := hz9.rd
        go_wp2_with fail
        refine (IN.out _).mono ?_; rintro e w' ⟨rfl, rfl⟩
        have K9 := Lib.hid hz9
        clear hz9 kc0 kf0
        go_wp2_with fail
        go_ret
        exact ⟨by simp, K9.out.1⟩
theorem ansVolumeOk : AnsVolumeOk := by
  intro x v w hx hi h
  obtain ⟨A, c, B, d, C, e, E, s, rfl, i1, i2, i3, i4, i5, -⟩ := h
  exact implVolumeOk_calls x.key A x.counts c i5 B x.trusts d C x.cells e E x.slots s x.count w hx.1 i1 hx.2.1 i2 hx.2.2.1 i3 hx.2.2.2.1 i4 (fun i h => (hi.2.1 i h).1) hi.2.2
end Go.Proofs.Ytgaecedhkbneaaa.Mx
namespace Go.Proofs.Ytgaecedhkbneaaa.Mx
open Go.ChangeShapes Go.WideShapes Go.ChangeAt Go.RowKit
set_option linter.unusedVariables false
def IsRow (k : IntKind) (w : World) (a : Option Addr) (len cap : Nat) (zs : List Int) : Prop :=
  (a = none ∧ len = 0 ∧ cap = 0 ∧ zs = []) ∨
  ∃ x, a = some x ∧ len ≤ cap ∧ cap ≤ maxLen ∧ zs.length = cap ∧ (∀ i, i < zs.length → w.cell? (x.add i) = some (.int k (zs.getD i 0))) ∧ ∀ n ∈ zs, (Lit.int k n).wf = true
section
variable {H : Type} {enc : TypeId × Value → H} {P : Program} {w : World} {base : Nat} {spare : Nat → Bool} {held : Bool}
theorem int_of_trod {t : TypeId} {n : Nat} {v : Value} {y : DataW H × List MemPlace} (ht : P.underlying t = some (.int .i64)) (h : DataW.trod enc P w base spare held n t [v] = some y) : ∃ a, v = .int .i64 a ∧ I64 a := by
  obtain ⟨z, hc, hx, hw⟩ := DataW.trod_int ht h
  simp at hc
  exact ⟨z, hc, bounds_i64 hw⟩
end
end Go.Proofs.Ytgaecedhkbneaaa.Mx
namespace Go.Proofs.Ytgaecedhkbneaaa.Mx
open Go.ChangeShapes Go.WideShapes Go.ChangeAt Go.RowKit Go.Joins Go.Deep
set_option linter.unusedVariables false
section
variable {H : Type} {enc : TypeId × Value → H} {P : Program} {w : World} {base : Nat} {spare : Nat → Bool} {held : Bool}
theorem bool_of_trod {t : TypeId} {n : Nat} {v : Value} {y : DataW H × List MemPlace} (ht : P.underlying t = some .bool) (h : DataW.trod enc P w base spare held n t [v] = some y) : ∃ a, v = .bool a := by
  obtain ⟨b, hc, -⟩ := DataW.trod_bool ht h
  exact ⟨b, by simpa using hc⟩
end
end Go.Proofs.Ytgaecedhkbneaaa.Mx
namespace Go.Proofs.Ytgaecedhkbneaaa.Mx
open Go.ChangeShapes Go.WideShapes Go.ChangeAt Go.RowKit
set_option linter.unusedVariables false
def FitK (k : Option TypeDesc) (v : Value) : Prop := (k = some (.int .i64) ∧ ∃ n, v = .int .i64 n ∧ I64 n) ∨ (k = some .bool ∧ ∃ b, v = .bool b)
def FlatV (w : World) (n : Nat) (a : Option Addr) (len : Nat) (z : Nat → Value) : Prop :=
  ∀ k, k < len * n → ∃ b off, a = some ⟨b, off, none⟩ ∧ b < w.heap.size ∧ w.cell? ⟨b, off + k, none⟩ = some (z k)
theorem cell_atV {w : World} {x : Addr} {k : Nat} {v : Value} (h : w.cell? (x.add k) = some v) (h0 : w.cell? (x.add 0) ≠ none) : ∃ b off, x = ⟨b, off, none⟩ ∧ b < w.heap.size ∧ w.cell? ⟨b, off + k, none⟩ = some v := by
  obtain ⟨b, off, spot⟩ := x
  have hspot : spot = none := by
    cases hc : w.cell? ((⟨b, off, spot⟩ : Addr).add 0) with
    | none => exact absurd hc h0
    | some u => simpa [Addr.add] using World.cell?_spot hc
  subst hspot
  have hc : w.cell? ⟨b, off + k, none⟩ = some v := by
    by_cases hk : k = 0
    · subst hk; simpa [Addr.add] using h
    · simpa [Addr.add, hk] using h
  exact ⟨b, off, rfl, lt_of_cell hc, hc⟩
section
variable {H : Type} {enc : TypeId × Value → H} {P : Program} {w : World} {base : Nat} {held : Bool}
theorem flatV_of {t e : TypeId} {fs : Array Field} {n0 : Nat} {v : Value} {y : DataW H × List MemPlace} (ht : P.underlying t = some (.slice e)) (he : P.underlying e = some (.struct fs)) (hone : Deep.oneCellFields P fs = true) (hC : P.cellsOf e = fs.size)
    (hk : ∀ f ∈ fs.toList, P.underlying f.type = some (.int .i64) ∨ P.underlying f.type = some .bool) (h : DataW.trod enc P w base (fun _ => true) held n0 t [v] = some y) :
    ∃ a len cap, v = .slice a len cap ∧ len ≤ cap ∧ len ≤ maxLen ∧ ∃ z : Nat → Value, FlatV w fs.size a len z ∧ ∀ k, k < len * fs.size → ∀ f, fs[k % fs.size]? = some f → FitK (P.underlying f.type) (z k) := by
  rcases Deep.open_slice ht h with ⟨hcs, _⟩ | ⟨x, l, c, m, n, D, Pl, hcs, _, hl, hm, hmm, _, hi⟩
  · simp only [List.cons.injEq, and_true] at hcs
    exact ⟨none, 0, 0, hcs, Nat.le_refl _, Nat.zero_le _, fun _ => undef, fun k hk => absurd hk (by simp), fun k hk => absurd hk (by simp)⟩
  · simp only [List.cons.injEq, and_true] at hcs
    simp only [if_true] at hmm
    subst hmm
    have key : ∀ k, ∃ u : Value, k < m * fs.size → w.cell? (x.add k) = some u ∧ ∀ f, fs[k % fs.size]? = some f → FitK (P.underlying f.type) u := by
      intro k
      by_cases hk2 : k < m * fs.size
      · have hn : 0 < fs.size := by rcases Nat.eq_zero_or_pos fs.size with h0 | h0; · simp [h0] at hk2
                                    · exact h0
        have hj : k % fs.size < fs.size := Nat.mod_lt _ hn
        have hik : k / fs.size < m := Nat.div_lt_of_lt_mul (by rwa [Nat.mul_comm])
        obtain ⟨cs, hc, ht'⟩ := hi _ hik
        obtain ⟨ys, n', _, _, hlen, hyl, hfld⟩ := DataW.trod_struct he ht'
        obtain ⟨_, _, hat⟩ := World.cells?_some hc
        have hfj : fs[k % fs.size]? = some fs[k % fs.size] := Array.getElem?_eq_getElem hj
        obtain ⟨ho, h1⟩ := Deep.hone_of hone _ _ hfj
        have hT := hfld _ _ hfj
        rw [ho, h1] at hT
        have hlt : k % fs.size < cs.length := by omega
        rw [List.drop_eq_getElem_cons hlt, List.take_succ_cons, List.take_zero, List.getElem?_eq_getElem (by omega)] at hT
        refine ⟨cs[k % fs.size], fun _ => ⟨?_, fun f hf => ?_⟩⟩
        · have hcell := hat _ (show k % fs.size < P.cellsOf e by omega)
          rw [Deep.add_add, hC, Nat.mul_comm, Nat.div_add_mod] at hcell
          rw [hcell, List.getElem?_eq_getElem hlt]
        · rw [hfj] at hf
          injection hf with hf
          subst hf
          rcases hk _ (Array.getElem_mem_toList hj) with h2 | h2
          · obtain ⟨v, hv, hv64⟩ := int_of_trod h2 hT
            exact .inl ⟨h2, v, hv, hv64⟩
          · obtain ⟨b, hb⟩ := bool_of_trod h2 hT
            exact .inr ⟨h2, b, hb⟩
      · exact ⟨undef, fun h => absurd h hk2⟩
    obtain ⟨z, hz⟩ := Classical.axiomOfChoice key
    have hkm : ∀ k, k < l * fs.size → k < m * fs.size := fun k hk => Nat.lt_of_lt_of_le hk (Nat.mul_le_mul_right _ hl)
    refine ⟨some x, l, m, hcs, hl, Nat.le_trans hl hm, z, fun k hk => ?_, fun k hk => (hz k (hkm k hk)).2⟩
    obtain ⟨b, off, rfl, hb, hc⟩ := cell_atV (hz k (hkm k hk)).1 (by rw [(hz 0 (by have := hkm k hk; omega)).1]; simp)
    exact ⟨b, off, rfl, hb, hc⟩
end
def boolOf : Value → Bool | .bool b => b | _ => false
def truOf (z : Nat → Value) (len : Nat) : List Tru := (List.range len).map fun i => ⟨intOf (z (i * 8)), intOf (z (i * 8 + 1)), intOf (z (i * 8 + 2)), intOf (z (i * 8 + 3)), intOf (z (i * 8 + 4)), intOf (z (i * 8 + 5)), intOf (z (i * 8 + 6)), boolOf (z (i * 8 + 7))⟩
theorem truOf_len (z : Nat → Value) (len : Nat) : (truOf z len).length = len := by simp [truOf]
theorem truOf_get (z : Nat → Value) {len i : Nat} (h : i < len) : (truOf z len).getD i default = ⟨intOf (z (i * 8)), intOf (z (i * 8 + 1)), intOf (z (i * 8 + 2)), intOf (z (i * 8 + 3)), intOf (z (i * 8 + 4)), intOf (z (i * 8 + 5)), intOf (z (i * 8 + 6)), boolOf (z (i * 8 + 7))⟩ := by
  rw [List.getD_eq_getElem?_getD]; simp [truOf, h]
theorem int_fit {k : Option TypeDesc} {v : Value} (h : FitK k v) (hk : k = some (.int .i64)) : v = .int .i64 (intOf v) ∧ I64 (intOf v) := by
  rcases h with ⟨_, n, rfl, hn⟩ | ⟨h2, _⟩
  · exact ⟨rfl, hn⟩
  · rw [hk] at h2; cases h2
theorem bool_fit {k : Option TypeDesc} {v : Value} (h : FitK k v) (hk : k = some .bool) : v = .bool (boolOf v) := by
  rcases h with ⟨h2, _⟩ | ⟨_, b, rfl⟩
  · rw [hk] at h2; cases h2
  · rfl
def IsTrus (w : World) (a : Option Addr) (len cap : Nat) (L : List Tru) : Prop := Trs w w.heap.size a L ∧ L.length = len ∧ TrusI L ∧ len ≤ maxLen ∧ len ≤ cap
theorem istrus_of_flat {P : Program} {w : World} {a : Option Addr} {len cap : Nat} {fs : Array Field} (hks : fs.toList.map (fun f => P.underlying f.type) = [some (.int .i64), some (.int .i64), some (.int .i64), some (.int .i64), some (.int .i64), some (.int .i64), some (.int .i64), some .bool])
    (h : len ≤ cap ∧ len ≤ maxLen ∧ ∃ z : Nat → Value, FlatV w fs.size a len z ∧ ∀ k, k < len * fs.size → ∀ f, fs[k % fs.size]? = some f → FitK (P.underlying f.type) (z k)) : ∃ L, IsTrus w a len cap L := by
  obtain ⟨hl, hm, z, hz, hf⟩ := h
  have h8 : fs.size = 8 := by have := congrArg List.length hks; simpa using this
  rw [h8] at hz hf
  have hf2 : ∀ i j q, i < len → j < 8 → ([some (.int .i64), some (.int .i64), some (.int .i64), some (.int .i64), some (.int .i64), some (.int .i64), some (.int .i64), some .bool] : List (Option TypeDesc))[j]? = some q → FitK q (z (i * 8 + j)) := by
    intro i j q hi hj hq
    rw [← hks, List.getElem?_map] at hq
    obtain ⟨f, h1, h2⟩ := Option.map_eq_some_iff.1 hq
    rw [← h2]
    refine hf (i * 8 + j) (by omega) f ?_
    rw [show (i * 8 + j) % 8 = j by omega]
    simpa using h1
  refine ⟨truOf z len, fun i hi => ?_, truOf_len _ _, fun i hi => ?_, hm, hl⟩
  · rw [truOf_len] at hi
    rw [truOf_get z hi]
    obtain ⟨b, off, rfl, hb, c0⟩ := hz (i * 8) (by omega)
    refine ⟨b, off, rfl, hb, fun j hj => ?_⟩
    have hc : w.cell? ⟨b, off + (i * 8 + j), none⟩ = some (z (i * 8 + j)) := by
      obtain ⟨b', off', e1, _, c⟩ := hz (i * 8 + j) (by omega)
      simp only [Option.some.injEq, Addr.mk.injEq] at e1
      obtain ⟨rfl, rfl, -⟩ := e1
      exact c
    rw [show off + i * 8 + j = off + (i * 8 + j) by omega, hc]
    match j, hj with
    | 0, _ => exact congrArg some (int_fit (hf2 i 0 _ hi (by omega) rfl) rfl).1
    | 1, _ => exact congrArg some (int_fit (hf2 i 1 _ hi (by omega) rfl) rfl).1
    | 2, _ => exact congrArg some (int_fit (hf2 i 2 _ hi (by omega) rfl) rfl).1
    | 3, _ => exact congrArg some (int_fit (hf2 i 3 _ hi (by omega) rfl) rfl).1
    | 4, _ => exact congrArg some (int_fit (hf2 i 4 _ hi (by omega) rfl) rfl).1
    | 5, _ => exact congrArg some (int_fit (hf2 i 5 _ hi (by omega) rfl) rfl).1
    | 6, _ => exact congrArg some (int_fit (hf2 i 6 _ hi (by omega) rfl) rfl).1
    | 7, _ => exact congrArg some (bool_fit (hf2 i 7 _ hi (by omega) rfl) rfl)
  · rw [truOf_len] at hi
    rw [truOf_get z hi]
    have g := fun j q hj hq => hf2 i j q hi hj hq
    exact ⟨(int_fit (g 0 _ (by omega) rfl) rfl).2, (int_fit (g 1 _ (by omega) rfl) rfl).2, (int_fit (g 2 _ (by omega) rfl) rfl).2, (int_fit (g 3 _ (by omega) rfl) rfl).2, (int_fit (g 4 _ (by omega) rfl) rfl).2, (int_fit (g 5 _ (by omega) rfl) rfl).2, (int_fit (g 6 _ (by omega) rfl) rfl).2⟩
theorem istrus_of_field {P : Program} {w : World} {v : Value} {fs : Array Field} (hks : fs.toList.map (fun f => P.underlying f.type) = [some (.int .i64), some (.int .i64), some (.int .i64), some (.int .i64), some (.int .i64), some (.int .i64), some (.int .i64), some .bool])
    (h : ∃ a len cap, v = .slice a len cap ∧ len ≤ cap ∧ len ≤ maxLen ∧ ∃ z : Nat → Value, FlatV w fs.size a len z ∧ ∀ k, k < len * fs.size → ∀ f, fs[k % fs.size]? = some f → FitK (P.underlying f.type) (z k)) : ∃ a len cap L, v = .slice a len cap ∧ IsTrus w a len cap L := by
  obtain ⟨a, len, cap, e, r⟩ := h
  obtain ⟨L, hL⟩ := istrus_of_flat hks r
  exact ⟨a, len, cap, L, e, hL⟩
def celOf (z : Nat → Value) (len : Nat) : List Ce := (List.range len).map fun i => (intOf (z (i * 2)), intOf (z (i * 2 + 1)))
theorem celOf_len (z : Nat → Value) (len : Nat) : (celOf z len).length = len := by simp [celOf]
theorem celOf_get (z : Nat → Value) {len i : Nat} (h : i < len) : (celOf z len).getD i default = (intOf (z (i * 2)), intOf (z (i * 2 + 1))) := by
  rw [List.getD_eq_getElem?_getD]; simp [celOf, h]
def IsCels (w : World) (a : Option Addr) (len cap : Nat) (L : List Ce) : Prop := Cls w w.heap.size a L ∧ L.length = len ∧ (∀ i, i < L.length → I64 (L.getD i default).1 ∧ I64 (L.getD i default).2) ∧ len ≤ maxLen ∧ len ≤ cap
theorem iscels_of_flat {P : Program} {w : World} {a : Option Addr} {len cap : Nat} {fs : Array Field} (hks : fs.toList.map (fun f => P.underlying f.type) = [some (.int .i64), some (.int .i64)])
    (h : len ≤ cap ∧ len ≤ maxLen ∧ ∃ z : Nat → Value, FlatV w fs.size a len z ∧ ∀ k, k < len * fs.size → ∀ f, fs[k % fs.size]? = some f → FitK (P.underlying f.type) (z k)) : ∃ L, IsCels w a len cap L := by
  obtain ⟨hl, hm, z, hz, hf⟩ := h
  have h8 : fs.size = 2 := by have := congrArg List.length hks; simpa using this
  rw [h8] at hz hf
  have hf2 : ∀ i j q, i < len → j < 2 → ([some (.int .i64), some (.int .i64)] : List (Option TypeDesc))[j]? = some q → FitK q (z (i * 2 + j)) := by
    intro i j q hi hj hq
    rw [← hks, List.getElem?_map] at hq
    obtain ⟨f, h1, h2⟩ := Option.map_eq_some_iff.1 hq
    rw [← h2]
    refine hf (i * 2 + j) (by omega) f ?_
    rw [show (i * 2 + j) % 2 = j by omega]
    simpa using h1
  refine ⟨celOf z len, fun i hi => ?_, celOf_len _ _, fun i hi => ?_, hm, hl⟩
  · rw [celOf_len] at hi
    rw [celOf_get z hi]
    obtain ⟨b, off, rfl, hb, c0⟩ := hz (i * 2) (by omega)
    refine ⟨b, off, rfl, hb, fun j hj => ?_⟩
    have hc : w.cell? ⟨b, off + (i * 2 + j), none⟩ = some (z (i * 2 + j)) := by
      obtain ⟨b', off', e1, _, c⟩ := hz (i * 2 + j) (by omega)
      simp only [Option.some.injEq, Addr.mk.injEq] at e1
      obtain ⟨rfl, rfl, -⟩ := e1
      exact c
    rw [show off + i * 2 + j = off + (i * 2 + j) by omega, hc]
    match j, hj with
    | 0, _ => exact congrArg some (int_fit (hf2 i 0 _ hi (by omega) rfl) rfl).1
    | 1, _ => exact congrArg some (int_fit (hf2 i 1 _ hi (by omega) rfl) rfl).1
  · rw [celOf_len] at hi
    rw [celOf_get z hi]
    exact ⟨(int_fit (hf2 i 0 _ hi (by omega) rfl) rfl).2, (int_fit (hf2 i 1 _ hi (by omega) rfl) rfl).2⟩
theorem iscels_of_field {P : Program} {w : World} {v : Value} {fs : Array Field} (hks : fs.toList.map (fun f => P.underlying f.type) = [some (.int .i64), some (.int .i64)])
    (h : ∃ a len cap, v = .slice a len cap ∧ len ≤ cap ∧ len ≤ maxLen ∧ ∃ z : Nat → Value, FlatV w fs.size a len z ∧ ∀ k, k < len * fs.size → ∀ f, fs[k % fs.size]? = some f → FitK (P.underlying f.type) (z k)) : ∃ a len cap L, v = .slice a len cap ∧ IsCels w a len cap L := by
  obtain ⟨a, len, cap, e, r⟩ := h
  obtain ⟨L, hL⟩ := iscels_of_flat hks r
  exact ⟨a, len, cap, L, e, hL⟩
theorem kinds_of {P : Program} {fs : Array Field} {l : List (Option TypeDesc)} (hks : fs.toList.map (fun f => P.underlying f.type) = l) (hl : ∀ k ∈ l, k = some (.int .i64) ∨ k = some .bool) : ∀ f ∈ fs.toList, P.underlying f.type = some (.int .i64) ∨ P.underlying f.type = some .bool :=
  fun f hf => hl _ (hks ▸ List.mem_map_of_mem (f := fun f : Field => P.underlying f.type) hf)
section
variable {H : Type} {enc : TypeId × Value → H} {P : Program} {w : World} {base : Nat} {held : Bool}
theorem istrus_of_part {t e : TypeId} {fs : Array Field} {n0 : Nat} {v : Value} {y : DataW H × List MemPlace} (ht : P.underlying t = some (.slice e)) (he : P.underlying e = some (.struct fs)) (hone : Deep.oneCellFields P fs = true) (hC : P.cellsOf e = fs.size)
    (hks : fs.toList.map (fun f => P.underlying f.type) = [some (.int .i64), some (.int .i64), some (.int .i64), some (.int .i64), some (.int .i64), some (.int .i64), some (.int .i64), some .bool]) (h : DataW.trod enc P w base (fun _ => true) held n0 t [v] = some y) : ∃ a len cap L, v = .slice a len cap ∧ IsTrus w a len cap L :=
  istrus_of_field hks (flatV_of ht he hone hC (kinds_of hks (by simp)) h)
theorem iscels_of_part {t e : TypeId} {fs : Array Field} {n0 : Nat} {v : Value} {y : DataW H × List MemPlace} (ht : P.underlying t = some (.slice e)) (he : P.underlying e = some (.struct fs)) (hone : Deep.oneCellFields P fs = true) (hC : P.cellsOf e = fs.size)
    (hks : fs.toList.map (fun f => P.underlying f.type) = [some (.int .i64), some (.int .i64)]) (h : DataW.trod enc P w base (fun _ => true) held n0 t [v] = some y) : ∃ a len cap L, v = .slice a len cap ∧ IsCels w a len cap L :=
  iscels_of_field hks (flatV_of ht he hone hC (kinds_of hks (by simp)) h)
end
end Go.Proofs.Ytgaecedhkbneaaa.Mx

/- CONTRACTS OF impl.Latest AND spec.Latest. -/
import Derived.Test.YtdljiccpppcljaaTripB
import Derived.Test.YtdljiccpppcljaaDrawG
import Derived.Test.YtdljiccpppcljaaKept
import Derived.Deep.QuietTactic
import Derived.BigQuiet
namespace Go.Proofs.Ytdljiccpppcljaa.Mx
open Go.ChangeShapes Go.WideShapes Go.ChangeAt Go.RowKit Go.Maps
set_option linter.unusedVariables false

/-- What chapter 4 asks of Latest: the one so far, and whether there is one. -/
def latStep (at_ : Int) (s : Tri × Bool) (x : Tri) : Tri × Bool := if x.1 = at_ ∧ (s.2 = false ∨ s.1.2.1 ≤ x.2.1) then (x, true) else s
def latest (at_ : Int) (L : List Tri) : Tri × Bool := L.foldl (latStep at_) ((0, 0, 0), false)
theorem latest_snoc (at_ : Int) (L : List Tri) (x : Tri) : latest at_ (L ++ [x]) = latStep at_ (latest at_ L) x := by simp [latest]
theorem latest_take {at_ : Int} {L : List Tri} {k : Nat} {x : Tri} (h : L.take (k + 1) = L.take k ++ [x]) : latest at_ (L.take (k + 1)) = latStep at_ (latest at_ (L.take k)) x := by rw [h, latest_snoc]
theorem latStep_yes {at_ : Int} {s : Tri × Bool} {x : Tri} (h : x.1 = at_) (h' : s.2 = false ∨ s.1.2.1 ≤ x.2.1) : latStep at_ s x = (x, true) := by unfold latStep; rw [if_pos ⟨h, h'⟩]
theorem latStep_no {at_ : Int} {s : Tri × Bool} {x : Tri} (h : ¬ (x.1 = at_ ∧ (s.2 = false ∨ s.1.2.1 ≤ x.2.1))) : latStep at_ s x = s := by unfold latStep; rw [if_neg h]

/-- A triple's three cells. -/
abbrev triBox (T : Tri) : Array Value := #[.int .i64 T.1, .int .i64 T.2.1, .int .i64 T.2.2]
theorem Kept.put3 {b w : World} {L : List Box} {p : Nat} {ty : TypeId} {a t v x y z : Value} (h : Kept b ((p, ty, #[a, t, v]) :: L) w) (hne : ∀ q ∈ L, q.1 ≠ p) :
    Kept b ((p, ty, #[x, y, z]) :: L) (((w.setCell ⟨p, 0, none⟩ x).setCell ⟨p, 1, none⟩ y).setCell ⟨p, 2, none⟩ z) := by
  have h1 := ((h.set hne 0 x).set hne 1 y).set hne 2 z
  simpa using h1

def LatestS (w : World) (at_ : Int) (L : List Tri) (e : Ending) (w' : World) : Prop :=
  e = .returned (.tuple #[.agg (triBox (latest at_ L).1), .bool (latest at_ L).2]) ∧ Below w.heap.size w w'

set_option maxHeartbeats 2000000 in
theorem latest_calls (A : Option Addr) (L : List Tri) (cap : Nat) (at_ : Int) (w : World) (hn : L.length ≤ maxLen) (hA : Tris w w.heap.size A L) :
    Calls Try.prog 11 #[.slice A L.length cap, .int .i64 at_] w (LatestS w at_ L) := by
  have hm := hn
  unfold maxLen at hm
  have HA := Lib.hid hA
  clear hA hn
  go_enter Try.func11, Try.ntmps11
  go_wp2_with fail
  have hk := ((Kept.refl w).new 32 #[.int .i64 0, .int .i64 0, .int .i64 0]).new 32 #[.int .i64 0, .int .i64 0, .int .i64 0]
  rw [show (w.alloc (.cells #[.int .i64 0, .int .i64 0, .int .i64 0] 32)).heap.size = w.heap.size + 1 by simp] at hk
  have HK := Lib.hid hk
  clear hk
  go_loopw [7, 12] (fun f i wr => ∃ k : Nat, k ≤ L.length ∧ i = .int .i64 k ∧ f = .bool (latest at_ (L.take k)).2 ∧ Kept w [(w.heap.size + 1, 32, triBox (latest at_ (L.take k)).1), (w.heap.size, 32, #[.int .i64 0, .int .i64 0, .int .i64 0])] wr) (fun _ i _ => L.length - (intOf i).toNat)
  case atStart => exact ⟨0, Nat.zero_le _, rfl, rfl, HK.out⟩
  case round =>
    obtain ⟨k, hk, rfl, rfl, hkp⟩ := hrel
    have KP := Lib.hid hkp
    have hAr := HA.out.below hkp.1 (Nat.le_refl _)
    clear hkp
    by_cases hlt : k < L.length
    · obtain ⟨b, off, rfl, hb, c0, c1, c2⟩ := hAr k hlt
      have hlt' : (k : Int) < L.length := by omega
      have hk0 : (0 : Int) ≤ k := by omega
      have hs := take_snoc hlt
      clear hAr
      generalize L.getD k (0, 0, 0) = T at c0 c1 c2 hs
      obtain ⟨a, t, v⟩ := T
      simp only at c0 c1 c2
      have hst := latest_take (at_ := at_) hs
      clear hs
      generalize latest at_ (L.take k) = s at KP hst ⊢
      obtain ⟨⟨x, y, z⟩, f⟩ := s
      have KN := Lib.hid (KP.out.alloc (.cells #[.int .i64 a, .int .i64 t, .int .i64 v] 32))
      obtain ⟨e0, e1, e2⟩ := KN.out.three
      have f0 := KN.out.frozen (List.mem_cons_self ..) 0
      have f1 := KN.out.frozen (List.mem_cons_self ..) 1
      have f2 := KN.out.frozen (List.mem_cons_self ..) 2
      simp only at e0 e1 e2 f0 f1 f2
      by_cases ha : a = at_
      · subst ha
        by_cases hy : f = false ∨ y ≤ t
        · have HS := Lib.hid (hst.trans (latStep_yes rfl hy))
          have KE := Lib.hid (KN.out.put3 (x := .int .i64 a) (y := .int .i64 t) (z := .int .i64 v) (fun q hq => by simp at hq; subst hq; simp))
          clear hst
          rcases f with _ | _
          · clear hy
            go_wp2_with fail
            go_roundw
            case rel => exact ⟨k + 1, by omega, by go_num, by rw [HS.out], by rw [HS.out]; exact KE.out⟩
            case measure => simp [intOf]; omega
          · have hy' : y ≤ t := by simpa using hy
            clear hy
            go_wp2_with fail
            go_roundw
            case rel => exact ⟨k + 1, by omega, by go_num, by rw [HS.out], by rw [HS.out]; exact KE.out⟩
            case measure => simp [intOf]; omega
        · have HS := Lib.hid (hst.trans (latStep_no (fun h => hy h.2)))
          clear hst
          rcases f with _ | _
          · exact absurd (.inl rfl) hy
          · have hy' : ¬ y ≤ t := fun h => hy (.inr h)
            clear hy
            go_wp2_with fail
            go_roundw
            case rel => exact ⟨k + 1, by omega, by go_num, by rw [HS.out], by rw [HS.out]; exact KN.out⟩
            case measure => simp [intOf]; omega
      · have HS := Lib.hid (hst.trans (latStep_no (fun h => ha h.1)))
        clear hst
        go_wp2_with fail
        go_roundw
        case rel => exact ⟨k + 1, by omega, by go_num, by rw [HS.out], by rw [HS.out]; exact KN.out⟩
        case measure => simp [intOf]; omega
    · have hk' : k = L.length := by omega
      clear hAr
      have HQ := Lib.hid (show L.take k = L by rw [hk', List.take_length])
      clear hk'
      have kp := KP.out
      rw [HQ.out] at kp ⊢
      generalize hgs : latest at_ L = s at kp ⊢
      have HG := Lib.hid hgs
      clear hgs
      obtain ⟨⟨x, y, z⟩, f⟩ := s
      simp only [triBox] at kp ⊢
      have KQ := Lib.hid kp
      obtain ⟨e0, e1, e2⟩ := kp.three
      have q0 := kp.cell (p := w.heap.size) (t := 32) (cs := #[.int .i64 0, .int .i64 0, .int .i64 0]) (by simp) 0
      have q1 := kp.cell (p := w.heap.size) (t := 32) (cs := #[.int .i64 0, .int .i64 0, .int .i64 0]) (by simp) 1
      have q2 := kp.cell (p := w.heap.size) (t := 32) (cs := #[.int .i64 0, .int .i64 0, .int .i64 0]) (by simp) 2
      have f0 := kp.frozen (p := w.heap.size) (t := 32) (cs := #[.int .i64 0, .int .i64 0, .int .i64 0]) (by simp) 0
      have f1 := kp.frozen (p := w.heap.size) (t := 32) (cs := #[.int .i64 0, .int .i64 0, .int .i64 0]) (by simp) 1
      have f2 := kp.frozen (p := w.heap.size) (t := 32) (cs := #[.int .i64 0, .int .i64 0, .int .i64 0]) (by simp) 2
      simp only [List.getElem?_toArray, List.getElem?_cons_zero, List.getElem?_cons_succ] at q0 q1 q2
      clear kp
      go_wp2_with fail
      obtain ⟨w9, e9, ⟨d0, d1, d2⟩, b9⟩ := tri_out (x := x) (y := y) (z := z) (Nat.le_refl _) (KQ.out.at_ (p := w.heap.size) (t := 32) (cs := #[.int .i64 0, .int .i64 0, .int .i64 0]) (by simp)) KQ.out.1
      rw [e9]
      have BB := Lib.hid b9
      clear e9 b9
      exact bodyPost_ret (v := .tuple #[.agg #[.int .i64 x, .int .i64 y, .int .i64 z], .bool f]) (by simp [results, Try.results11, go_sem, d0, d1, d2]) rfl ⟨by rw [HG.out], BB.out⟩

set_option maxHeartbeats 2000000 in
theorem specLatest_calls (A : Option Addr) (L : List Tri) (cap : Nat) (at_ : Int) (w : World) (hn : L.length ≤ maxLen) (hA : Tris w w.heap.size A L) :
    Calls Try.prog 12 #[.slice A L.length cap, .int .i64 at_] w (LatestS w at_ L) := by
  have hm := hn
  unfold maxLen at hm
  have HA := Lib.hid hA
  clear hA hn
  go_enter Try.func12, Try.ntmps12
  go_wp2_with fail
  have hk := ((Kept.refl w).new 32 #[.int .i64 0, .int .i64 0, .int .i64 0]).new 32 #[.int .i64 0, .int .i64 0, .int .i64 0]
  rw [show (w.alloc (.cells #[.int .i64 0, .int .i64 0, .int .i64 0] 32)).heap.size = w.heap.size + 1 by simp] at hk
  have HK := Lib.hid hk
  clear hk
  go_loopw [7, 8] (fun f i wr => ∃ k : Nat, k ≤ L.length ∧ i = .int .i64 k ∧ f = .bool (latest at_ (L.take k)).2 ∧ Kept w [(w.heap.size + 1, 32, triBox (latest at_ (L.take k)).1), (w.heap.size, 32, #[.int .i64 0, .int .i64 0, .int .i64 0])] wr) (fun _ i _ => L.length - (intOf i).toNat)
  case atStart => exact ⟨0, Nat.zero_le _, rfl, rfl, HK.out⟩
  case round =>
    obtain ⟨k, hk, rfl, rfl, hkp⟩ := hrel
    have KP := Lib.hid hkp
    have hAr := HA.out.below hkp.1 (Nat.le_refl _)
    clear hkp
    by_cases hlt : k < L.length
    · obtain ⟨b, off, rfl, hb, c0, c1, c2⟩ := hAr k hlt
      have hlt' : (k : Int) < L.length := by omega
      have hk0 : (0 : Int) ≤ k := by omega
      have hs := take_snoc hlt
      clear hAr
      generalize L.getD k (0, 0, 0) = T at c0 c1 c2 hs
      obtain ⟨a, t, v⟩ := T
      simp only at c0 c1 c2
      have hst := latest_take (at_ := at_) hs
      clear hs
      generalize latest at_ (L.take k) = s at KP hst ⊢
      obtain ⟨⟨x, y, z⟩, f⟩ := s
      have KN := Lib.hid KP.out
      obtain ⟨e0, e1, e2⟩ := KN.out.three
      have f0 := KN.out.frozen (List.mem_cons_self ..) 0
      have f1 := KN.out.frozen (List.mem_cons_self ..) 1
      have f2 := KN.out.frozen (List.mem_cons_self ..) 2
      simp only at e0 e1 e2 f0 f1 f2
      by_cases ha : a = at_
      · subst ha
        by_cases hy : f = false ∨ y ≤ t
        · have HS := Lib.hid (hst.trans (latStep_yes rfl hy))
          have KE := Lib.hid (fun n => (KN.out.drewN n).put3 (x := .int .i64 a) (y := .int .i64 t) (z := .int .i64 v) (fun q hq => by simp at hq; subst hq; simp))
          clear hst
          rcases f with _ | _
          · clear hy
            go_wp2_with fail
            go_quiet (fail)
            go_wp2_with fail
            go_roundw
            case rel => exact ⟨k + 1, by omega, by go_num, by rw [HS.out], by rw [HS.out]; exact KE.out _⟩
            case measure => simp [intOf]; omega
          · have hy' : y ≤ t := by simpa using hy
            clear hy
            go_wp2_with fail
            go_quiet (fail)
            go_wp2_with fail
            go_roundw
            case rel => exact ⟨k + 1, by omega, by go_num, by rw [HS.out], by rw [HS.out]; exact KE.out _⟩
            case measure => simp [intOf]; omega
        · have HS := Lib.hid (hst.trans (latStep_no (fun h => hy h.2)))
          clear hst
          rcases f with _ | _
          · exact absurd (.inl rfl) hy
          · have hy' : ¬ y ≤ t := fun h => hy (.inr h)
            clear hy
            go_wp2_with fail
            go_quiet (fail)
            go_wp2_with fail
            go_roundw
            case rel => exact ⟨k + 1, by omega, by go_num, by rw [HS.out], by rw [HS.out]; exact KN.out.drewN _⟩
            case measure => simp [intOf]; omega
      · have HS := Lib.hid (hst.trans (latStep_no (fun h => ha h.1)))
        have hb : (a == at_) = false := by simpa using ha
        clear hst e0 e1 e2 f0 f1 f2
        go_wp2_with fail
        go_quiet (fail)
        go_wp2_with fail
        go_roundw
        case rel => exact ⟨k + 1, by omega, by go_num, by rw [HS.out], by rw [HS.out]; exact KN.out.drewN _⟩
        case measure => simp [intOf]; omega
    · have hk' : k = L.length := by omega
      clear hAr
      have HQ := Lib.hid (show L.take k = L by rw [hk', List.take_length])
      clear hk'
      have kp := KP.out
      rw [HQ.out] at kp ⊢
      generalize hgs : latest at_ L = s at kp ⊢
      have HG := Lib.hid hgs
      clear hgs
      obtain ⟨⟨x, y, z⟩, f⟩ := s
      simp only [triBox] at kp ⊢
      have KQ := Lib.hid kp
      obtain ⟨e0, e1, e2⟩ := kp.three
      have q0 := kp.cell (p := w.heap.size) (t := 32) (cs := #[.int .i64 0, .int .i64 0, .int .i64 0]) (by simp) 0
      have q1 := kp.cell (p := w.heap.size) (t := 32) (cs := #[.int .i64 0, .int .i64 0, .int .i64 0]) (by simp) 1
      have q2 := kp.cell (p := w.heap.size) (t := 32) (cs := #[.int .i64 0, .int .i64 0, .int .i64 0]) (by simp) 2
      have f0 := kp.frozen (p := w.heap.size) (t := 32) (cs := #[.int .i64 0, .int .i64 0, .int .i64 0]) (by simp) 0
      have f1 := kp.frozen (p := w.heap.size) (t := 32) (cs := #[.int .i64 0, .int .i64 0, .int .i64 0]) (by simp) 1
      have f2 := kp.frozen (p := w.heap.size) (t := 32) (cs := #[.int .i64 0, .int .i64 0, .int .i64 0]) (by simp) 2
      simp only [List.getElem?_toArray, List.getElem?_cons_zero, List.getElem?_cons_succ] at q0 q1 q2
      clear kp
      go_wp2_with fail
      obtain ⟨w9, e9, ⟨d0, d1, d2⟩, b9⟩ := tri_out (x := x) (y := y) (z := z) (Nat.le_refl _) (KQ.out.at_ (p := w.heap.size) (t := 32) (cs := #[.int .i64 0, .int .i64 0, .int .i64 0]) (by simp)) KQ.out.1
      rw [e9]
      have BB := Lib.hid b9
      clear e9 b9
      exact bodyPost_ret (v := .tuple #[.agg #[.int .i64 x, .int .i64 y, .int .i64 z], .bool f]) (by simp [results, Try.results12, go_sem, d0, d1, d2]) rfl ⟨by rw [HG.out], BB.out⟩
end Go.Proofs.Ytdljiccpppcljaa.Mx

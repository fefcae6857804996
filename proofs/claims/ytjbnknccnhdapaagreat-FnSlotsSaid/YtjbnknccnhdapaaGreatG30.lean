import Derived.Test.YtjbnknccnhdapaaGreatRows
import Derived.Test.YtjbnknccnhdapaaGreatG01
import Derived.Deep.OwnRows
import Derived.Lib.Hide
import Derived.Deep.QuietTactic
import Derived.BigQuiet
import Derived.Outline
import Derived.Deep.RegionWith
import Derived.Test.YtjbnknccnhdapaaGreatG03
import Derived.OwnWalk
import Derived.RegionTactic
import Derived.Deep.AppendLies
import Derived.Deep.RegionLaw
import Derived.Test.YtjbnknccnhdapaaGreatG04
namespace Go.Proofs.YtjbnknccnhdapaaGreat.Mx
open Go.ChangeShapes Go.WideShapes Go.ChangeAt Go.RowKit
set_option linter.unusedVariables false
def Cur (w : World) (g : Nat) (A : Option Addr) (l : List Int) (cap : Nat) : Prop :=
 Ints w .u8 g A l ∧ ∃ (i : Nat) (h : Int), i ≤ l.length ∧ CellsAt w g 76 #[.slice A l.length cap, .int .i64 i, .int .i64 h]
theorem Cur.lt {w : World} {g : Nat} {A : Option Addr} {l : List Int} {cap : Nat} (h : Cur w g A l cap) : g < w.heap.size := by
 obtain ⟨_, i, x, _, hb⟩ := h
 exact hb.lt
theorem Cur.below {w w' : World} {g B : Nat} {A : Option Addr} {l : List Int} {cap : Nat} (h : Cur w g A l cap) (hb : Below B w w') (hg : g < B) : Cur w' g A l cap := by
 obtain ⟨hA, i, x, hi, hc⟩ := h
 exact ⟨hA.below hb (by omega), i, x, hi, hc.below hb hg⟩
theorem Cur.gb {w w' : World} {g g' : Nat} {A : Option Addr} {l : List Int} {cap : Nat} (h : Cur w g A l cap) (hb : w.grownBy w' (some g')) (hg : g < g') : Cur w' g A l cap := by
 obtain ⟨hA, i, x, hi, hc⟩ := h
 exact ⟨hA.gb hb (by have := hc.lt; omega) (by omega), i, x, hi, hc.grown hb (by intro e; injection e with e; omega)⟩
def Num (lo hi : Int) (w : World) (g : Nat) (A : Option Addr) (l : List Int) (cap : Nat) (e : Ending) (w' : World) : Prop :=
 ∃ v : Int, e = .returned (.int .i64 v) ∧ (lo ≤ v ∧ v ≤ hi) ∧ w.grownBy w' (some g) ∧ Cur w' g A l cap
set_option maxHeartbeats 400000 in
theorem byte_calls (g : Nat) (A : Option Addr) (l : List Int) (cap : Nat) (w : World) (hn : l.length ≤ maxLen) (hc : Cur w g A l cap) :
    Calls Tryz.prog 38 #[.pointer (some ⟨g, 0, none⟩)] w (Num 0 255 w g A l cap) := by
 unfold maxLen at hn
 obtain ⟨hA, i, h, hi, hb⟩ := hc
 have c0 : w.cell? ⟨g, 0, none⟩ = some (.slice A l.length cap) := hb.cell 0
 have c1 : w.cell? ⟨g, 1, none⟩ = some (.int .i64 i) := hb.cell 1
 have c2 : w.cell? ⟨g, 2, none⟩ = some (.int .i64 h) := hb.cell 2
 have f1 := hb.frozen 1
 have f2 := hb.frozen 2
 have HB := Lib.hid hb
 have HA := Lib.hid hA
 clear hb hA
 go_enter Tryz.func38, Tryz.ntmps38
 go_wp2_with fail
 generalize wrap64 (wrap64 (h * 6364136223846793005) + 1442695040888963407) = h2
 go_quiet (fail)
 go_wp2_with fail
 have hx := and_bd_i64 (bits BinOp.xor IntKind.i64 (h2 / 8589934592) (h2 / 35184372088832)) 255 (by omega)
 rw [show ((255 : Nat) : Int) = 255 from rfl] at hx
 generalize bits BinOp.and IntKind.i64 (bits BinOp.xor IntKind.i64 (h2 / 8589934592) (h2 / 35184372088832)) 255 = x at hx
 obtain ⟨x0, x1⟩ := hx
 by_cases hlt : i < l.length
 ·obtain ⟨b, off, rfl, hbg, hcb⟩ := HA.out i hlt
  have hi' : (i : Int) < l.length := by omega
  have hi0 : (0 : Int) ≤ i := by omega
  have hcb' : (w.setCell ⟨g, 2, none⟩ (Value.int .i64 h2)).cell? ⟨b, off + i, none⟩ = some (.int .u8 (l.getD i 0)) := by
   rw [World.cell?_setCell_other _ _ _ _ (by intro h; injection h with h1; omega)]; exact hcb
  clear hcb
  generalize l.getD i 0 = v at hcb'
  go_quiet (fail)
  go_wp2_with fail
  go_quiet (fail)
  go_wp2_with fail
  go_ret
  refine ⟨_, rfl, and_bd_i64 _ 255 (by omega), ?_, HA.out.gb (g := g) ?_ (Nat.le_of_lt HB.out.lt) (Nat.le_refl _), i + 1, h2, by omega, ?_⟩
  ·repeat (first | exact gb_refl _ _ | refine gb_set ?_ _ _ | refine gb_drewN ?_ _)
  ·repeat (first | exact gb_refl _ _ | refine gb_set ?_ _ _ | refine gb_drewN ?_ _)
  ·exact ((HB.out.set_ 2 (.int .i64 h2)).set_ 1 (.int .i64 ((i + 1 : Nat) : Int)))
 ·have hi' : ¬ (i : Int) < l.length := by omega
  go_quiet (fail)
  go_wp2_with fail
  go_ret
  refine ⟨_, rfl, ⟨x0, x1⟩, ?_, HA.out.gb (g := g) ?_ (Nat.le_of_lt HB.out.lt) (Nat.le_refl _), i, h2, by omega, ?_⟩
  ·repeat (first | exact gb_refl _ _ | refine gb_set ?_ _ _ | refine gb_drewN ?_ _)
  ·repeat (first | exact gb_refl _ _ | refine gb_set ?_ _ _ | refine gb_drewN ?_ _)
  ·exact HB.out.set_ 2 (.int .i64 h2)
theorem emod_bd {x n : Int} (hx : 0 ≤ x) (hn : 1 ≤ n) : 0 ≤ x % n ∧ x % n ≤ n - 1 := ⟨Int.emod_nonneg _ (by omega), by have := Int.emod_lt_of_pos x (show 0 < n by omega); omega⟩
set_option maxHeartbeats 400000 in
theorem below_calls (g : Nat) (A : Option Addr) (l : List Int) (cap : Nat) (n : Int) (w : World) (hn : l.length ≤ maxLen) (hc : Cur w g A l cap) (h1 : 1 ≤ n) :
    Calls Tryz.prog 18 #[.pointer (some ⟨g, 0, none⟩), .int .i64 n] w (Num 0 (n - 1) w g A l cap) := by
 have HC := Lib.hid hc
 have HN := Lib.hid hn
 clear hc hn
 by_cases hs : n ≤ 256
 ·go_enter Tryz.func18, Tryz.ntmps18
  go_wp2_with fail
  refine (byte_calls g A l cap w HN.out HC.out).mono ?_; rintro e w1 ⟨x, rfl, ⟨x0, x1⟩, gb1, c1⟩
  have G := Lib.hid gb1
  have C := Lib.hid c1
  clear gb1 c1
  go_wp2_with fail
  go_ret
  exact ⟨_, rfl, emod_bd x0 h1, G.out, C.out⟩
 ·go_enter Tryz.func18, Tryz.ntmps18
  go_wp2_with fail
  refine (byte_calls g A l cap w HN.out HC.out).mono ?_; rintro e w1 ⟨x, rfl, ⟨x0, x1⟩, gb1, c1⟩
  have G1 := Lib.hid gb1
  have C1 := Lib.hid c1
  clear gb1 c1
  go_wp2_with fail
  refine (byte_calls g A l cap w1 HN.out C1.out).mono ?_; rintro e w2 ⟨y, rfl, ⟨y0, y1⟩, gb2, c2⟩
  have G2 := Lib.hid gb2
  have C2 := Lib.hid c2
  clear gb2 c2
  go_wp2_with fail
  refine (byte_calls g A l cap w2 HN.out C2.out).mono ?_; rintro e w3 ⟨z, rfl, ⟨z0, z1⟩, gb3, c3⟩
  have G3 := Lib.hid gb3
  have C3 := Lib.hid c3
  clear gb3 c3
  go_wp2_with fail
  refine (byte_calls g A l cap w3 HN.out C3.out).mono ?_; rintro e w4 ⟨v, rfl, ⟨v0, v1⟩, gb4, c4⟩
  have G4 := Lib.hid gb4
  have C4 := Lib.hid c4
  clear gb4 c4
  go_wp2_with fail
  go_ret
  exact ⟨_, rfl, emod_bd (by omega) h1, gb_trans (gb_trans G1.out G2.out) (gb_trans G3.out G4.out), C4.out⟩
theorem min_calls (a b : Int) (w : World) :
    Calls Tryz.prog 35 (cA a b) w fun e w' => e = .returned (.int .i64 (min a b)) ∧ w = w' := by
 by_cases h : a < b
 ·rw [show min a b = a from by omega]
  go_enter Tryz.func35, Tryz.ntmps35
  go_wp2
  go_ret
  exact ⟨rfl, rfl⟩
 ·rw [show min a b = b from by omega]
  go_enter Tryz.func35, Tryz.ntmps35
  go_wp2
  go_ret
  exact ⟨rfl, rfl⟩
def Bit (w : World) (g : Nat) (A : Option Addr) (l : List Int) (cap : Nat) (e : Ending) (w' : World) : Prop :=
 ∃ v : Bool, e = .returned (.bool v) ∧ w.grownBy w' (some g) ∧ Cur w' g A l cap
theorem once_calls (g : Nat) (A : Option Addr) (l : List Int) (cap : Nat) (n : Int) (w : World) (hn : l.length ≤ maxLen) (hc : Cur w g A l cap) (h1 : 1 ≤ n) :
    Calls Tryz.prog 19 #[.pointer (some ⟨g, 0, none⟩), .int .i64 n] w (Bit w g A l cap) := by
 have HC := Lib.hid hc
 have HN := Lib.hid hn
 clear hc hn
 go_enter Tryz.func19, Tryz.ntmps19
 go_wp2_with fail
 refine (below_calls g A l cap n w HN.out HC.out h1).mono ?_; rintro e w1 ⟨x, rfl, ⟨x0, x1⟩, gb1, c1⟩
 have G := Lib.hid gb1
 have C := Lib.hid c1
 clear gb1 c1
 go_wp2_with fail
 go_ret
 exact ⟨_, rfl, G.out, C.out⟩
theorem Cur.alloc {w : World} {g : Nat} {A : Option Addr} {l : List Int} {cap : Nat} (h : Cur w g A l cap) (o : Obj) : Cur (w.alloc o) g A l cap :=
 h.gb (gb_alloc (gb_refl w (some w.heap.size)) o) h.lt
set_option maxHeartbeats 400000 in
theorem odd_calls (g : Nat) (A : Option Addr) (l : List Int) (cap : Nat) (w : World) (hn : l.length ≤ maxLen) (hc : Cur w g A l cap) :
    Calls Tryz.prog 39 #[.pointer (some ⟨g, 0, none⟩)] w (Num (-9223372036854775808) 9223372036854775807 w g A l cap) := by
 have HC := Lib.hid hc
 have HN := Lib.hid hn
 have hlt := hc.lt
 clear hc hn
 go_enter Tryz.func39, Tryz.ntmps39
 go_wp2_with fail
 refine (below_calls g A l cap 10 _ HN.out (HC.out.alloc _) (by omega)).mono ?_; rintro e w1 ⟨x, rfl, ⟨x0, x1⟩, gb1, c1⟩
 have hblk := (CellsAt.new w _ _).grown gb1 (by intro e; injection e with e; omega)
 obtain ⟨k, rfl⟩ := Int.eq_ofNat_of_zero_le x0
 obtain ⟨v, hv, hcell⟩ := CellsAt.some64 [-1, 0, 1, 2147483648, -2147483648, 1099511627776, 4611686018427387904, -4611686018427387904, 9223372036854775807, -9223372036854775808] hblk
  (by repeat (first | exact I64s.nil | refine I64s.cons (by omega) (by omega) ?_)) k (by simp; omega)
 have G := Lib.hid (gb_trans (gb_alloc (gb_refl w (some g)) _) gb1)
 have C := Lib.hid c1
 clear gb1 c1 hblk
 go_wp2_with fail
 go_ret
 exact ⟨v, rfl, hv, G.out, C.out⟩
set_option maxHeartbeats 1000000 in
theorem num_calls (g : Nat) (A : Option Addr) (l : List Int) (cap : Nat) (m : Int) (w : World) (hn : l.length ≤ maxLen) (hc : Cur w g A l cap) (h0 : 0 ≤ m) (h1 : m ≤ 4611686018427387904) :
    Calls Tryz.prog 20 #[.pointer (some ⟨g, 0, none⟩), .int .i64 m] w (Num (-9223372036854775808) 9223372036854775807 w g A l cap) := by
 have HC := Lib.hid hc
 have HN := Lib.hid hn
 have hlt := hc.lt
 clear hc hn
 go_enter Tryz.func20, Tryz.ntmps20
 go_wp2_with fail
 refine (once_calls g A l cap 10 w HN.out HC.out (by omega)).mono ?_; rintro e w1 ⟨b1, rfl, gb1, c1⟩
 have G1 := Lib.hid gb1
 have C1 := Lib.hid c1
 clear gb1 c1
 rcases b1 with _ | _
 ·go_wp2_with fail
  refine (once_calls g A l cap 2 w1 HN.out C1.out (by omega)).mono ?_; rintro e w2 ⟨b2, rfl, gb2, c2⟩
  have G2 := Lib.hid (gb_trans G1.out gb2)
  have C2 := Lib.hid c2
  clear gb2 c2
  rcases b2 with _ | _
  ·go_wp2_with fail
   refine (below_calls g A l cap (m + 1) w2 HN.out C2.out (by omega)).mono ?_; rintro e w3 ⟨x, rfl, ⟨x0, x1⟩, gb3, c3⟩
   have G3 := Lib.hid (gb_trans G2.out gb3)
   have C3 := Lib.hid c3
   clear gb3 c3
   go_wp2_with fail
   go_ret
   exact ⟨x, rfl, ⟨by omega, by omega⟩, G3.out, C3.out⟩
  ·go_wp2_with fail
   refine (min_calls m 4 w2).mono ?_; rintro e w' ⟨rfl, rfl⟩
   obtain ⟨q, hq⟩ : ∃ q, q = min m 4 := ⟨_, rfl⟩
   have q0 : 0 ≤ q := by omega
   have q1 : q ≤ 4 := by omega
   rw [← hq]
   clear hq
   go_wp2_with fail
   refine (below_calls g A l cap (q + 1) w2 HN.out C2.out (by omega)).mono ?_; rintro e w3 ⟨x, rfl, ⟨x0, x1⟩, gb3, c3⟩
   have G3 := Lib.hid (gb_trans G2.out gb3)
   have C3 := Lib.hid c3
   clear gb3 c3
   go_wp2_with fail
   go_ret
   exact ⟨x, rfl, ⟨by omega, by omega⟩, G3.out, C3.out⟩
 ·go_wp2_with fail
  refine (odd_calls g A l cap w1 HN.out C1.out).mono ?_; rintro e w2 ⟨o, rfl, ⟨o0, o1⟩, gb2, c2⟩
  have hlt2 := c2.lt
  have G2 := Lib.hid (gb_trans G1.out gb2)
  have C2 := Lib.hid c2
  clear gb2 c2
  go_wp2_with fail
  refine (below_calls g A l cap 4 _ HN.out (C2.out.alloc _) (by omega)).mono ?_; rintro e w3 ⟨x, rfl, ⟨x0, x1⟩, gb3, c3⟩
  have hblk := (CellsAt.new w2 _ _).grown gb3 (by intro e; injection e with e; omega)
  obtain ⟨k, rfl⟩ := Int.eq_ofNat_of_zero_le x0
  obtain ⟨v, hv, hcell⟩ := CellsAt.some64 [-1, m, m + 1, o] hblk
   (by repeat (first | exact I64s.nil | refine I64s.cons (by omega) (by omega) ?_)) k (by simp; omega)
  have G3 := Lib.hid (gb_trans G2.out (gb_trans (gb_alloc (gb_refl w2 (some g)) _) gb3))
  have C3 := Lib.hid c3
  clear gb3 c3 hblk
  go_wp2_with fail
  go_ret
  exact ⟨v, rfl, hv, G3.out, C3.out⟩
set_option maxHeartbeats 400000 in
theorem new_calls (A : Option Addr) (l : List Int) (cap : Nat) (w : World) (hn : l.length ≤ maxLen) (hA : Ints w .u8 w.heap.size A l) :
    Calls Tryz.prog 16 #[.slice A l.length cap] w fun e w' => e = .returned (.pointer (some ⟨w.heap.size, 0, none⟩)) ∧ Below w.heap.size w w' ∧ Cur w' w.heap.size A l cap := by
 unfold maxLen at hn
 have HA := Lib.hid hA
 clear hA
 go_enter Tryz.func16, Tryz.ntmps16
 go_wp2_with fail
 go_loop [3, 4] (fun h i => ∃ k : Nat, k ≤ l.length ∧ i = .int .i64 k ∧ ∃ H, h = .int .i64 H) (fun _ i => l.length - (intOf i).toNat)
 case atStart => exact ⟨0, Nat.zero_le _, rfl, _, rfl⟩
 case round =>
  obtain ⟨k, hk, rfl, H, rfl⟩ := hrel
  by_cases hlt : k < l.length
  ·obtain ⟨b, off, rfl, hb, hc⟩ := HA.out k hlt
   generalize l.getD k 0 = v at hc
   go_wp2_with fail
   go_round
   case rel => exact ⟨k + 1, by omega, by go_num, _, rfl⟩
   case measure => simp [intOf]; omega
  ·go_wp2_with fail
   go_ret
   refine ⟨rfl, (Below.refl _ _).alloc (Nat.le_refl _) _, HA.out.below ((Below.refl _ _).alloc (Nat.le_refl _) _) (Nat.le_refl _), 0, H, Nat.zero_le _, ?_⟩
   exact CellsAt.new w _ _
def St (v : World) (g : Nat) (A : Option Addr) (l : List Int) (cap : Nat) (w : World) : Prop := Below g v w ∧ Cur w g A l cap
theorem St.drew {v w : World} {g : Nat} {A : Option Addr} {l : List Int} {cap : Nat} (h : St v g A l cap w) : St v g A l cap w.drew := ⟨h.1.drew, h.2⟩
theorem St.alloc {v w : World} {g : Nat} {A : Option Addr} {l : List Int} {cap : Nat} (h : St v g A l cap w) (o : Obj) : St v g A l cap (w.alloc o) := ⟨h.1.alloc (Nat.le_of_lt h.2.lt) o, h.2.alloc o⟩
def NumS (lo hi : Int) (v w : World) (g : Nat) (A : Option Addr) (l : List Int) (cap : Nat) (e : Ending) (w' : World) : Prop :=
 ∃ x : Int, e = .returned (.int .i64 x) ∧ (lo ≤ x ∧ x ≤ hi) ∧ St v g A l cap w' ∧ w.grownBy w' (some g)
theorem NumS.of {lo hi : Int} {v w w' : World} {g : Nat} {A : Option Addr} {l : List Int} {cap : Nat} {e : Ending} (h : St v g A l cap w) (hx : Num lo hi w g A l cap e w') : NumS lo hi v w g A l cap e w' := by
 obtain ⟨x, he, hb, hg, hc⟩ := hx
 exact ⟨x, he, hb, ⟨bgb h.1 hg (Nat.le_of_lt h.2.lt) (Nat.le_refl _), hc⟩, hg⟩
theorem below_st (v : World) (g : Nat) (A : Option Addr) (l : List Int) (cap : Nat) (n : Int) (w : World) (hn : l.length ≤ maxLen) (h : St v g A l cap w) (h1 : 1 ≤ n) :
    Calls Tryz.prog 18 #[.pointer (some ⟨g, 0, none⟩), .int .i64 n] w (NumS 0 (n - 1) v w g A l cap) :=
 (below_calls g A l cap n w hn h.2 h1).mono fun _ _ hx => NumS.of h hx
theorem num_st (v : World) (g : Nat) (A : Option Addr) (l : List Int) (cap : Nat) (m : Int) (w : World) (hn : l.length ≤ maxLen) (h : St v g A l cap w) (h0 : 0 ≤ m) (h1 : m ≤ 4611686018427387904) :
    Calls Tryz.prog 20 #[.pointer (some ⟨g, 0, none⟩), .int .i64 m] w (NumS (-9223372036854775808) 9223372036854775807 v w g A l cap) :=
 (num_calls g A l cap m w hn h.2 h0 h1).mono fun _ _ hx => NumS.of h hx
def BitS (v w : World) (g : Nat) (A : Option Addr) (l : List Int) (cap : Nat) (e : Ending) (w' : World) : Prop :=
 ∃ x : Bool, e = .returned (.bool x) ∧ St v g A l cap w' ∧ w.grownBy w' (some g)
theorem once_st (v : World) (g : Nat) (A : Option Addr) (l : List Int) (cap : Nat) (n : Int) (w : World) (hn : l.length ≤ maxLen) (h : St v g A l cap w) (h1 : 1 ≤ n) :
    Calls Tryz.prog 19 #[.pointer (some ⟨g, 0, none⟩), .int .i64 n] w (BitS v w g A l cap) :=
 (once_calls g A l cap n w hn h.2 h1).mono fun _ _ ⟨x, he, hg, hc⟩ => ⟨x, he, ⟨bgb h.1 hg (Nat.le_of_lt h.2.lt) (Nat.le_refl _), hc⟩, hg⟩
def Dice (w : World) (g : Nat) (A : Option Addr) (l : List Int) (cap : Nat) : Prop :=
 Ints w .u8 g A l ∧ ∃ (i : Nat) (h : Int), i ≤ l.length ∧ CellsAt w g 63 #[.slice A l.length cap, .int .i64 i, .int .u64 h]
theorem Dice.lt {w : World} {g : Nat} {A : Option Addr} {l : List Int} {cap : Nat} (h : Dice w g A l cap) : g < w.heap.size := by
 obtain ⟨_, i, x, _, hb⟩ := h
 exact hb.lt
theorem Dice.below {w w' : World} {g B : Nat} {A : Option Addr} {l : List Int} {cap : Nat} (h : Dice w g A l cap) (hb : Below B w w') (hg : g < B) : Dice w' g A l cap := by
 obtain ⟨hA, i, x, hi, hc⟩ := h
 exact ⟨hA.below hb (by omega), i, x, hi, hc.below hb hg⟩
def Thrown (n : Int) (w : World) (g : Nat) (A : Option Addr) (l : List Int) (cap : Nat) (e : Ending) (w' : World) : Prop :=
 ∃ v : Int, e = .returned (.int .i64 v) ∧ (0 ≤ v ∧ v ≤ n - 1) ∧ w.grownBy w' (some g) ∧ Dice w' g A l cap
set_option maxHeartbeats 400000 in
theorem roll_calls (A : Option Addr) (l : List Int) (cap : Nat) (s : Int) (w : World) (hn : l.length ≤ maxLen) (hA : Ints w .u8 w.heap.size A l) :
    Calls Tryz.prog 11 #[.slice A l.length cap, .int .u64 s] w fun e w' => e = .returned (.pointer (some ⟨w.heap.size, 0, none⟩)) ∧ Below w.heap.size w w' ∧ Dice w' w.heap.size A l cap := by
 unfold maxLen at hn
 have HA := Lib.hid hA
 clear hA
 go_enter Tryz.func11, Tryz.ntmps11
 go_wp2_with fail
 go_loopw [6] (fun i wr => ∃ (k : Nat) (h : Int), k ≤ l.length ∧ i = .int .i64 k ∧ Below w.heap.size w wr ∧ CellsAt wr w.heap.size 63 #[.slice A l.length cap, .int .i64 0, .int .u64 h]) (fun i _ => l.length - (intOf i).toNat)
 case atStart => exact ⟨0, _, Nat.zero_le _, rfl, (Below.refl _ _).alloc (Nat.le_refl _) _, CellsAt.new _ _ _⟩
 case round =>
  obtain ⟨k, h, hk, rfl, hbel, hblk⟩ := hrel
  have HB := Lib.hid hbel
  have HK := Lib.hid hblk
  have c2 : wr.cell? ⟨w.heap.size, 2, none⟩ = some (.int .u64 h) := hblk.cell 2
  have f2 := hblk.frozen 2
  have hAr := HA.out.below hbel (Nat.le_refl _)
  clear hbel hblk
  by_cases hlt : k < l.length
  ·obtain ⟨b, off, rfl, hb, hc⟩ := hAr k hlt
   have hlt' : (k : Int) < l.length := by omega
   have hk0 : (0 : Int) ≤ k := by omega
   clear hAr
   generalize l.getD k 0 = v at hc
   go_wp2_with fail
   go_region
   all_goals
    go_wp2_with fail
    go_roundw
    case rel =>
     exact ⟨k + 1, IntKind.u64.wrap (IntKind.u64.wrap (IntKind.u64.wrap (h * 1099511628211) + IntKind.u64.wrap v) + 3), by omega, by go_num, (HB.out.setCell (Nat.le_refl _) _).drew, (HK.out.set_ 2 _).drew⟩
    case measure => simp [intOf]; omega
  ·clear hAr
   go_wp2_with fail
   go_ret
   exact ⟨rfl, HB.out, HA.out.below HB.out (Nat.le_refl _), 0, h, Nat.zero_le _, HK.out⟩
theorem tmod_bd {x n : Int} (hx : 0 ≤ x) (hn : 1 ≤ n) : 0 ≤ x % n ∧ x % n ≤ n - 1 := ⟨Int.emod_nonneg _ (by omega), by have := Int.emod_lt_of_pos x (show 0 < n by omega); omega⟩
set_option maxHeartbeats 400000 in
theorem throw_calls (g : Nat) (A : Option Addr) (l : List Int) (cap : Nat) (n : Int) (w : World) (hn : l.length ≤ maxLen) (hc : Dice w g A l cap) (h8 : ∀ i, i < l.length → 0 ≤ l.getD i 0 ∧ l.getD i 0 ≤ 255) (n1 : 1 ≤ n) :
    Calls Tryz.prog 15 #[.pointer (some ⟨g, 0, none⟩), .int .i64 n] w (Thrown n w g A l cap) := by
 unfold maxLen at hn
 obtain ⟨hA, i, h, hi, hb⟩ := hc
 have c0 : w.cell? ⟨g, 0, none⟩ = some (.slice A l.length cap) := hb.cell 0
 have c1 : w.cell? ⟨g, 1, none⟩ = some (.int .i64 i) := hb.cell 1
 have c2 : w.cell? ⟨g, 2, none⟩ = some (.int .u64 h) := hb.cell 2
 have f1 := hb.frozen 1
 have f2 := hb.frozen 2
 have HB := Lib.hid hb
 have HA := Lib.hid hA
 have H8 := Lib.hid h8
 clear hb hA h8
 go_enter Tryz.func15, Tryz.ntmps15
 go_wp2_with fail
 generalize IntKind.u64.wrap (IntKind.u64.wrap (h * 6364136223846793005) + 1442695040888963407) = h2
 have hx := and_bd_u64 (h2 / 8589934592) 16777215 (by omega)
 rw [show ((16777215 : Nat) : Int) = 16777215 from rfl] at hx
 generalize bits BinOp.and IntKind.u64 (h2 / 8589934592) 16777215 = x at hx
 obtain ⟨x0, x1⟩ := hx
 rw [IntWalk.wrap64_in x (by omega)]
 by_cases hlt : i < l.length
 ·obtain ⟨b, off, rfl, hbg, hcb⟩ := HA.out i hlt
  have hi' : (i : Int) < l.length := by omega
  have hi0 : (0 : Int) ≤ i := by omega
  have hcb' : (w.setCell ⟨g, 2, none⟩ (Value.int .u64 h2)).cell? ⟨b, off + i, none⟩ = some (.int .u8 (l.getD i 0)) := by
   rw [World.cell?_setCell_other _ _ _ _ (by intro h; injection h with h1; omega)]; exact hcb
  have hv := H8.out i hlt
  clear hcb
  generalize l.getD i 0 = v at hcb' hv
  obtain ⟨v0, v1⟩ := hv
  go_quiet (fail)
  go_wp2_with fail
  go_quiet (fail)
  go_wp2_with fail
  go_ret
  refine ⟨_, rfl, tmod_bd (x := x + v) (by omega) n1, ?_, HA.out.gb (g := g) ?_ (Nat.le_of_lt HB.out.lt) (Nat.le_refl _), i + 1, h2, by omega, ?_⟩
  ·repeat (first | exact gb_refl _ _ | refine gb_set ?_ _ _ | refine gb_drewN ?_ _)
  ·repeat (first | exact gb_refl _ _ | refine gb_set ?_ _ _ | refine gb_drewN ?_ _)
  ·exact ((HB.out.set_ 2 (.int .u64 h2)).set_ 1 (.int .i64 ((i + 1 : Nat) : Int)))
 ·have hi' : ¬ (i : Int) < l.length := by omega
  go_quiet (fail)
  go_wp2_with fail
  go_ret
  refine ⟨_, rfl, tmod_bd x0 n1, ?_, HA.out.gb (g := g) ?_ (Nat.le_of_lt HB.out.lt) (Nat.le_refl _), i, h2, by omega, ?_⟩
  ·repeat (first | exact gb_refl _ _ | refine gb_set ?_ _ _ | refine gb_drewN ?_ _)
  ·repeat (first | exact gb_refl _ _ | refine gb_set ?_ _ _ | refine gb_drewN ?_ _)
  ·exact HB.out.set_ 2 (.int .u64 h2)
theorem Cur.set {w : World} {g : Nat} {A : Option Addr} {l : List Int} {cap : Nat} (h : Cur w g A l cap) {b : Nat} (hb : g < b) (i : Nat) (u : Value) : Cur (w.setCell ⟨b, i, none⟩ u) g A l cap :=
 h.gb (gb_set (gb_refl w (some b)) i u) hb
theorem St.set {v w : World} {g : Nat} {A : Option Addr} {l : List Int} {cap : Nat} (h : St v g A l cap w) {b : Nat} (hb : g < b) (i : Nat) (u : Value) : St v g A l cap (w.setCell ⟨b, i, none⟩ u) :=
 ⟨bgb h.1 (gb_set (gb_refl w (some b)) i u) (Nat.le_of_lt h.2.lt) (Nat.le_of_lt hb), h.2.set hb i u⟩
theorem gb_new {w w' : World} {g b : Nat} (h : w.grownBy w' (some g)) (hb : w.heap.size ≤ b) (i : Nat) (u : Value) : w.grownBy (w'.setCell ⟨b, i, none⟩ u) (some g) :=
 ⟨h.os, h.tape, h.output, by simpa [World.setCell] using h.size, fun k hk hr => (Below.heap_setCell _ _ _ _ (by simp; omega)).trans (h.block k hk hr)⟩
theorem gb_blw {a b c : World} {g : Nat} (h : a.grownBy b (some g)) (hb : Below a.heap.size b c) : a.grownBy c (some g) :=
 ⟨hb.os.trans h.os, hb.tape.trans h.tape, hb.output.trans h.output, Nat.le_trans h.size hb.size, fun k hk hr => (hb.block k hk).trans (h.block k hk hr)⟩
theorem St.below {v w w' : World} {g B : Nat} {A : Option Addr} {l : List Int} {cap : Nat} (h : St v g A l cap w) (hb : Below B w w') (hg : g < B) : St v g A l cap w' :=
 ⟨h.1.trans (hb.mono (Nat.le_of_lt hg)), h.2.below hb hg⟩
theorem Row.alloc {w : World} {base t : Nat} {v : Value} {zs : List Int} (h : Row w base t v zs) (o : Obj) : Row (w.alloc o) base t v zs := ⟨h.1.alloc o, h.2⟩
theorem Row.mono {w : World} {base base' t : Nat} {v : Value} {zs : List Int} (h : Row w base t v zs) (hb : base' ≤ base) : Row w base' t v zs := by
 refine ⟨⟨h.1.1, ?_⟩, h.2⟩
 rcases h.1.2 with h0 | ⟨g, cap, cur, e, hg, r⟩
 ·exact .inl h0
 ·exact .inr ⟨g, cap, cur, e, Nat.le_trans hb hg, r⟩
theorem Row.reads_cap {w : World} {base t : Nat} {v : Value} {zs : List Int} (h : Row w base t v zs) : ∃ A c, v = .slice A zs.length c ∧ Ints w .i64 w.heap.size A zs ∧ zs.length ≤ c := by
 rcases h.1.2 with ⟨rfl, hn⟩ | ⟨g, cap, cur, rfl, hb, hg, hnc, hcm, hcs, htake⟩
 ·have : zs = [] := List.length_eq_zero_iff.1 hn
  subst this
  exact ⟨none, 0, rfl, Ints.nil, Nat.le_refl _⟩
 ·obtain ⟨A, c, e, hI⟩ := h.reads
  injection e with e1 e2 e3
  subst e1 e3
  exact ⟨_, cap, rfl, hI, hnc⟩
theorem Dice.drew {w : World} {g : Nat} {A : Option Addr} {l : List Int} {cap : Nat} (h : Dice w g A l cap) : Dice w.drew g A l cap := by
 obtain ⟨hA, i, x, hi, hc⟩ := h
 exact ⟨hA, i, x, hi, hc⟩
theorem Dice.set {w : World} {g : Nat} {A : Option Addr} {l : List Int} {cap : Nat} (h : Dice w g A l cap) {b : Nat} (hb : g < b) (i : Nat) (u : Value) : Dice (w.setCell ⟨b, i, none⟩ u) g A l cap := by
 have hlt := h.lt
 obtain ⟨hA, j, x, hi, hc⟩ := h
 exact ⟨hA.gb (gb_set (gb_refl w (some b)) i u) (Nat.le_of_lt hlt) (Nat.le_of_lt hb), j, x, hi, hc.grown (gb_set (gb_refl w (some b)) i u) (by intro e; injection e with e; omega)⟩
theorem d8_below {u w : World} {g : Nat} {A : Option Addr} {l : List Int} {cap : Nat} (h : Dice u g A l cap) (hb : Below u.heap.size u w) : Dice w g A l cap := h.below hb h.lt
theorem info_n64 : (Tryz.prog.info? 2).map (fun i => (i.zero, i.size, i.bytes)) = some (some (.int .i64 0), 1, 8) := by kernel_rfl
theorem from_st (v : World) (g : Nat) (A : Option Addr) (l : List Int) (cap : Nat) (lo hi : Int) (w : World) (hn : l.length ≤ maxLen) (h : St v g A l cap w) (h0 : -100 ≤ lo) (h1 : lo ≤ hi) (h2 : hi ≤ 100) :
    Calls Tryz.prog 21 #[.pointer (some ⟨g, 0, none⟩), .int .i64 lo, .int .i64 hi] w (NumS lo hi v w g A l cap) := by
 have C := Lib.hid (fun w h => below_st v g A l cap (hi - lo + 1) w hn h (by omega))
 have HS := Lib.hid h
 clear hn h
 go_enter Tryz.func21, Tryz.ntmps21
 go_wp2_with fail
 refine (C.out _ HS.out).mono ?_; rintro e w1 ⟨x, rfl, ⟨x0, x1⟩, s1, g1⟩
 have S1 := Lib.hid s1
 have G1 := Lib.hid g1
 clear s1 g1
 go_wp2_with fail
 go_ret
 exact ⟨_, rfl, ⟨by omega, by omega⟩, S1.out, G1.out⟩
def PBox (w : World) (base p : Nat) (key : Int) (v : Value) (zs : List Int) : Prop := p < base ∧ base ≤ w.heap.size ∧ CellsAt w p 26 #[.int .i64 key, v] ∧ Row w base 2 v zs
theorem PBox.grown {w w' : World} {base p g : Nat} {key : Int} {v : Value} {zs : List Int} (h : PBox w base p key v zs) (hg : w.grownBy w' (some g)) (hp : g < p) : PBox w' base p key v zs :=
 ⟨h.1, Nat.le_trans h.2.1 hg.size, h.2.2.1.grown hg (by intro e; injection e with e; omega), h.2.2.2.grown hg (by have := h.1; omega)⟩
theorem PBox.alloc {w : World} {base p : Nat} {key : Int} {v : Value} {zs : List Int} (h : PBox w base p key v zs) (o : Obj) : PBox (w.alloc o) base p key v zs :=
 ⟨h.1, by have := h.2.1; simp; omega, CellsAt.grown h.2.2.1 (World.grownBy_alloc w o none) (by simp), h.2.2.2.alloc o⟩
theorem PBox.drew {w : World} {base p : Nat} {key : Int} {v : Value} {zs : List Int} (h : PBox w base p key v zs) : PBox w.drew base p key v zs :=
 ⟨h.1, h.2.1, h.2.2.1.drew, ⟨h.2.2.2.1.drew, h.2.2.2.2⟩⟩
theorem PBox.grew {w w' : World} {base p : Nat} {key x : Int} {v v' : Value} {zs : List Int} (h : PBox w base p key v zs) (hg : w.grownBy w' v.ownBlock) :
    CellsAt w' p 26 #[.int .i64 key, v] ∧ Below base w w' := by
 have hlt := h.2.2.2.1.lt
 refine ⟨h.2.2.1.grown hg ?_, gr_below hg h.2.1 (fun k hk => (hlt k hk).1)⟩
 intro e
 have := (hlt p e.symm).1
 have := h.1
 omega
theorem PBox.put {w w' : World} {base p : Nat} {key x : Int} {v v' : Value} {zs : List Int} (h : PBox w base p key v zs) (x0 : -9223372036854775808 ≤ x) (x1 : x ≤ 9223372036854775807)
    (hw : w'.ownsRow base 2 1 v' (zs.length + 1) (zs.map (Value.int .i64) ++ [Value.int .i64 x])) (hg : w.grownBy w' v.ownBlock) : PBox (w'.setCell ⟨p, 1, none⟩ v') base p key v' (zs ++ [x]) := by
 have hc := (h.grew (x := x) (v' := v') hg).1
 refine ⟨h.1, by have := hg.size; have := h.2.1; simp [World.setCell]; omega, hc.set_ 1 v', ?_⟩
 exact (Row.snoc h.2.2.2.2 x0 x1 hw).grown (gb_set (gb_refl w' (some p)) 1 v') h.1
theorem countsOk_nil : CountsOk [] := fun i hi => by simp at hi
theorem countsOk_snoc {l : List Int} {x : Int} (h : CountsOk l) (h0 : 1 ≤ x) (h1 : x ≤ 8) : CountsOk (l ++ [x]) := by
 intro i hi
 rw [List.getD_eq_getElem?_getD]
 rcases Nat.lt_or_ge i l.length with hlt | hge
 ·rw [List.getElem?_append_left hlt]
  have := h i hlt
  rwa [List.getD_eq_getElem?_getD] at this
 ·have : i = l.length := by simp at hi; omega
  subst this
  simp
  exact ⟨h0, h1⟩
def PlanP (v w : World) (g : Nat) (A : Option Addr) (l : List Int) (cap : Nat) (e : Ending) (w' : World) : Prop :=
 ∃ (key : Int) (u : Value) (zs : List Int), e = .returned (.agg #[.int .i64 key, u]) ∧ planOk key zs ∧ Row w' w.heap.size 2 u zs ∧ St v g A l cap w' ∧ w.grownBy w' (some g)
set_option maxRecDepth 20000 in
set_option maxHeartbeats 1000000 in
theorem draw5p_calls (v : World) (g : Nat) (A : Option Addr) (l : List Int) (cap : Nat) (w : World) (hn : l.length ≤ maxLen) (h : St v g A l cap w) :
    Calls Tryz.prog 34 #[.pointer (some ⟨g, 0, none⟩)] w (PlanP v w g A l cap) := by
 have HN := Lib.hid hn
 have HS := Lib.hid h
 have HL := h.2.lt
 clear hn h
 obtain ⟨i0, hi, hz0, hz1, hz2⟩ := info_parts info_n64
 go_enter Tryz.func34, Tryz.ntmps34
 go_wp2_with fail
 refine (below_st v g A l cap 500 _ HN.out (HS.out.alloc _) (by omega)).mono ?_; rintro e w1 ⟨x, rfl, ⟨x0, x1⟩, s1, g1⟩
 have S1 := Lib.hid s1
 have G1 := Lib.hid (gb_trans (gb_alloc (gb_refl w (some g)) _) g1)
 have K1 := Lib.hid ((CellsAt.new w 26 zP).grown g1 (by intro e; injection e with e; omega))
 have z1 : w.heap.size < w1.heap.size := by have := g1.size; simp at this; omega
 clear s1 g1
 go_wp2_with fail
 refine (below_st v g A l cap 3 _ HN.out (S1.out.alloc _) (by omega)).mono ?_; rintro e w2 ⟨n, rfl, ⟨n0, n1⟩, s2, g2⟩
 have S2 := Lib.hid s2
 have G2 := Lib.hid (gb_trans (gb_alloc G1.out (.cells (pA (1 + x) none 0 0) 26)) g2)
 have K2 := Lib.hid ((CellsAt.grown K1.out (World.grownBy_alloc w1 (.cells (pA (1 + x) none 0 0) 26) none) (by simp)).grown g2 (by intro e; injection e with e; omega))
 have P2 := Lib.hid (PBox.grown (show PBox (w1.alloc (.cells (pA (1 + x) none 0 0) 26)) (w1.heap.size + 1) w1.heap.size (1 + x) (.slice none 0 0) [] from
  ⟨by omega, by simp, CellsAt.new _ _ _, ⟨World.ownsRow_nil _ _ _ _, I64s.nil⟩⟩) g2 (by omega))
 clear s2 g2
 obtain ⟨k, rfl⟩ := Int.eq_ofNat_of_zero_le n0
 go_wp2_with fail
 go_loopw [4] (fun i wr => ∃ (j : Nat) (u : Value) (zs : List Int), i = .int .i64 j ∧ j + zs.length = 1 + k ∧ CountsOk zs ∧ PBox wr (w1.heap.size + 1) w1.heap.size (1 + x) u zs ∧ CellsAt wr w.heap.size 26 zP ∧ St v g A l cap wr ∧ w.grownBy wr (some g)) (fun i _ => (intOf i).toNat)
 case atStart => exact ⟨1 + k, _, [], by go_num, by simp, countsOk_nil, P2.out, K2.out, S2.out, G2.out⟩
 case round =>
  obtain ⟨j, u, zs, rfl, hj, hco, hbox, hres, hst, hgb⟩ := hrel
  have HC := Lib.hid hco
  clear hco
  have hj3 : j + zs.length ≤ 3 := by omega
  have HJ := Lib.hid hj
  clear hj
  have PB := Lib.hid hbox
  have KR := Lib.hid hres
  have HT := Lib.hid hst
  have HG := Lib.hid hgb
  have c1 : wr.cell? ⟨w1.heap.size, 1, none⟩ = some u := hbox.2.2.1.cell 1
  clear hbox hres hst hgb
  by_cases hlt : 0 < j
  ·go_wp2_with fail
   go_region_law (first
    | (refine step_append_lies _ (by rfl) _ _ _ (by rfl) (w1.heap.size + 1) 2 i0 _ 1 8 Tryz.underlying24 hi hz0 hz1 hz2 rfl (by omega) u zs.length (zs.map (Value.int .i64)) (by rfl) (PX.out.alloc _).2.2.2.1
        ⟨wx.heap.size, 0, none⟩ 1 1 [.int .i64 (1 + y)] (by rfl) (by rfl) (World.news_of_block (cs := #[.int .i64 (1 + y)]) (t := 2) (fr := (0, 0)) (heap_alloc_new wx _)) (by simp [Value.oneCell'])
        (by omega) (by unfold maxLen; omega) (by omega) (by have := PX.out.2.1; simp; omega) (wx.heap.size + 1) (by simp) ?_
       intro gg cc wy hown hgrow hat hlt2
       have hpg := (PX.out.alloc (.cells #[.int .i64 (1 + y)] 2)).grew (x := 0) (v' := .slice none 0 0) hgrow
       have d1 : wy.cell? ⟨w1.heap.size, 1, none⟩ = some u := hpg.1.cell 1
       have d2 := hpg.1.frozen 1
       have PY := Lib.hid ((PX.out.alloc (.cells #[.int .i64 (1 + y)] 2)).put (v' := .slice (some ⟨gg, 0, none⟩) (zs.length + 1) cc) (by omega) (by omega) hown hgrow)
       have BY := Lib.hid hpg.2
       clear hown hgrow hat hlt2 hpg)
    | (go_simp; go_at_call 18; refine (below_st v g A l cap 3 _ HN.out ?_ (by omega)).mono ?_; exact HT.out.drew; rintro e wx ⟨y, rfl, ⟨y0, y1⟩, sx, gx⟩
       have hwy : IntKind.i64.wrap (1 + y) = 1 + y := IntWalk.i64_in _ (by omega)
       have PX := Lib.hid (PB.out.drew.grown gx (by omega))
       have SX := Lib.hid sx
       have GX := Lib.hid (gb_trans (gb_drew HG.out) gx)
       have KX := Lib.hid (KR.out.drew.grown gx (by intro e; injection e with e; omega))
       have e1 : wx.cell? ⟨w1.heap.size, 1, none⟩ = some u := PX.out.2.2.1.cell 1
       have e2 : ∀ o, (wx.alloc o).cell? ⟨w1.heap.size, 1, none⟩ = some u := fun o => (PX.out.alloc o).2.2.1.cell 1
       clear sx gx))
   all_goals
    have SY := Lib.hid (((SX.out.alloc (.cells #[.int .i64 (1 + y)] 2)).below BY.out (by omega)).set (show g < w1.heap.size by omega) 1 (.slice (some ⟨gg, 0, none⟩) (zs.length + 1) cc))
    have KY := Lib.hid (((CellsAt.grown KX.out (World.grownBy_alloc wx (.cells #[.int .i64 (1 + y)] 2) none) (by simp)).below BY.out (by omega)).grown (gb_set (gb_refl wy (some w1.heap.size)) 1 (.slice (some ⟨gg, 0, none⟩) (zs.length + 1) cc)) (by intro e; injection e with e; omega))
    have GY := Lib.hid (gb_new (gb_blw (gb_alloc GX.out (.cells #[.int .i64 (1 + y)] 2)) (BY.out.mono (by omega))) (show w.heap.size ≤ w1.heap.size by omega) 1 (.slice (some ⟨gg, 0, none⟩) (zs.length + 1) cc))
    clear SX KX GX BY PX d1 d2 e1 e2
    go_wp2_with fail
    go_roundw
    case rel => exact ⟨j - 1, _, zs ++ [1 + y], by go_num, by have := HJ.out; simp; omega, countsOk_snoc HC.out (by omega) (by omega), PY.out, KY.out, SY.out, GY.out⟩
    case measure => simp [intOf]; omega
  ·obtain rfl : j = 0 := by omega
   have c0 : wr.cell? ⟨w1.heap.size, 0, none⟩ = some (.int .i64 (1 + x)) := PB.out.2.2.1.cell 0
   have r0 : wr.cell? ⟨w.heap.size, 0, none⟩ = some (.int .i64 0) := KR.out.cell 0
   have r1 : wr.cell? ⟨w.heap.size, 1, none⟩ = some (.slice none 0 0) := KR.out.cell 1
   have f0 := KR.out.frozen 0
   have f1 := KR.out.frozen 1
   obtain ⟨q, c, hq, -⟩ := PB.out.2.2.2.reads
   have hrow := PB.out.2.2.2
   have hbb := PB.out.1
   subst hq
   go_wp2_with fail
   have HR := Lib.hid ((hrow.grown (gb_set (gb_refl wr (some w.heap.size)) 0 (.int .i64 (1 + x))) (by omega)).grown (gb_set (gb_refl _ (some w.heap.size)) 1 (.slice q zs.length c)) (by omega))
   have HS2 := Lib.hid ((HT.out.set HL 0 (.int .i64 (1 + x))).set HL 1 (.slice q zs.length c))
   have HG2 := Lib.hid (gb_new (gb_new HG.out (Nat.le_refl _) 0 (.int .i64 (1 + x))) (Nat.le_refl _) 1 (.slice q zs.length c))
   have hk := (KR.out.set_ 0 (.int .i64 (1 + x))).set_ 1 (.slice q zs.length c)
   clear hrow PB HT HG c0 c1 r0 r1 f0 f1
   generalize World.setCell _ _ _ = w4 at HR HS2 HG2 hk ⊢
   have d0 : w4.cell? ⟨w.heap.size, 0, none⟩ = some (.int .i64 (1 + x)) := hk.cell 0
   have d1 : w4.cell? ⟨w.heap.size, 1, none⟩ = some (.slice q zs.length c) := hk.cell 1
   exact bodyPost_ret (v := .agg (pA (1 + x) q zs.length c)) (by simp [results, Tryz.results34, go_sem, d0, d1]) rfl ⟨_, _, zs, rfl, by have hj := HJ.out; exact ⟨⟨by omega, by omega⟩, ⟨by omega, by omega⟩, HC.out, by have := (upTo_bd HC.out (k := zs.length) (Nat.le_refl _)).2; omega⟩, HR.out.mono (by omega), HS2.out, HG2.out⟩
end Go.Proofs.YtjbnknccnhdapaaGreat.Mx

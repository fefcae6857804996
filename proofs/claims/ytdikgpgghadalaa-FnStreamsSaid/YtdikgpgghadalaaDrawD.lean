/- CONTRACT OF spec.DrawAddOf: it answers two numbers of type int64; nothing that was there is written. -/
import Derived.Test.YtdikgpgghadalaaDrawB
import Derived.Deep.RegionWith
namespace Go.Proofs.Ytdikgpgghadalaa.Mx
open Go.ChangeShapes Go.WideShapes Go.ChangeAt Go.RowKit
set_option linter.unusedVariables false

/-- THE STATE OF A DRAW: since world v nothing below g has turned; block g is the cursor. -/
def St (v : World) (g : Nat) (A : Option Addr) (l : List Int) (cap : Nat) (w : World) : Prop := Below g v w ∧ Cur w g A l cap
theorem St.drew {v w : World} {g : Nat} {A : Option Addr} {l : List Int} {cap : Nat} (h : St v g A l cap w) : St v g A l cap w.drew := ⟨h.1.drew, h.2⟩
theorem St.alloc {v w : World} {g : Nat} {A : Option Addr} {l : List Int} {cap : Nat} (h : St v g A l cap w) (o : Obj) : St v g A l cap (w.alloc o) := ⟨h.1.alloc (Nat.le_of_lt h.2.lt) o, h.2.alloc o⟩

/-- A number is answered, and the state stands. -/
def NumS (lo hi : Int) (v w : World) (g : Nat) (A : Option Addr) (l : List Int) (cap : Nat) (e : Ending) (w' : World) : Prop :=
  ∃ x : Int, e = .returned (.int .i64 x) ∧ (lo ≤ x ∧ x ≤ hi) ∧ St v g A l cap w' ∧ w.grownBy w' (some g)
theorem NumS.of {lo hi : Int} {v w w' : World} {g : Nat} {A : Option Addr} {l : List Int} {cap : Nat} {e : Ending} (h : St v g A l cap w) (hx : Num lo hi w g A l cap e w') : NumS lo hi v w g A l cap e w' := by
  obtain ⟨x, he, hb, hg, hc⟩ := hx
  exact ⟨x, he, hb, ⟨bgb h.1 hg (Nat.le_of_lt h.2.lt) (Nat.le_refl _), hc⟩, hg⟩

theorem below_st (v : World) (g : Nat) (A : Option Addr) (l : List Int) (cap : Nat) (n : Int) (w : World) (hn : l.length ≤ maxLen) (h : St v g A l cap w) (h1 : 1 ≤ n) :
    Calls Try.prog 35 #[.pointer (some ⟨g, 0, none⟩), .int .i64 n] w (NumS 0 (n - 1) v w g A l cap) :=
  (below_calls g A l cap n w hn h.2 h1).mono fun _ _ hx => NumS.of h hx
theorem num_st (v : World) (g : Nat) (A : Option Addr) (l : List Int) (cap : Nat) (m : Int) (w : World) (hn : l.length ≤ maxLen) (h : St v g A l cap w) (h0 : 0 ≤ m) (h1 : m ≤ 4611686018427387904) :
    Calls Try.prog 38 #[.pointer (some ⟨g, 0, none⟩), .int .i64 m] w (NumS (-9223372036854775808) 9223372036854775807 v w g A l cap) :=
  (num_calls g A l cap m w hn h.2 h0 h1).mono fun _ _ hx => NumS.of h hx

theorem CellsAt.someInt {w : World} {g : Nat} {t : TypeId} (zs : List Int) (h : CellsAt w g t ((zs.map (Value.int .i64)).toArray)) (k : Nat) (hk : k < zs.length) : ∃ v, w.cell? ⟨g, k, none⟩ = some (.int .i64 v) := ⟨_, h.ints hk⟩

/-- Two numbers are answered; nothing that was there is written. -/
def TwoNums (w : World) (e : Ending) (w' : World) : Prop :=
  ∃ a b : Int, e = .returned (.tuple #[.int .i64 a, .int .i64 b]) ∧ Below w.heap.size w w'

set_option maxHeartbeats 1000000 in
theorem drawAdd_calls (A : Option Addr) (l : List Int) (cap : Nat) (w : World) (hn : l.length ≤ maxLen) (hA : Ints w .u8 w.heap.size A l) :
    Calls Try.prog 21 #[.slice A l.length cap] w (TwoNums w) := by
  have HA := Lib.hid hA
  have HN := Lib.hid hn
  clear hA hn
  go_enter Try.func21, Try.ntmps21
  go_wp2_with fail
  refine (new_calls A l cap w HN.out HA.out).mono ?_; rintro e w1 ⟨rfl, b1, c1⟩
  have B1 := Lib.hid b1
  have C1 := Lib.hid c1
  clear b1 c1
  obtain ⟨g, hg⟩ : ∃ g, g = w.heap.size := ⟨_, rfl⟩
  have S1 : St w g A l cap w1 := by rw [hg]; exact ⟨B1.out, C1.out⟩
  rw [← hg]
  have HG := Lib.hid hg
  clear hg B1 C1
  go_wp2_with fail
  refine (below_st w g A l cap 1000 w1 HN.out S1 (by omega)).mono ?_; rintro e w2 ⟨x, rfl, ⟨x0, x1⟩, S2, -⟩
  clear S1
  go_wp2_with fail
  refine (below_st w g A l cap 3 w2 HN.out S2 (by omega)).mono ?_; rintro e w3 ⟨y, rfl, ⟨y0, y1⟩, S3, -⟩
  clear S2
  go_wp2_with fail
  refine (num_st w g A l cap 4611686018427387903 w3 HN.out S3 (by omega) (by omega)).mono ?_; rintro e w4 ⟨z, rfl, ⟨z0, z1⟩, S4, -⟩
  clear S3
  go_wp2_with fail
  refine (below_st w g A l cap 3 _ HN.out (S4.alloc _) (by omega)).mono ?_; rintro e w5 ⟨i, rfl, ⟨i0, i1⟩, S5, gb5⟩
  have hblk := (CellsAt.new w4 _ _).grown gb5 (by have := S4.2.lt; intro e; injection e with e; omega)
  obtain ⟨k, rfl⟩ := Int.eq_ofNat_of_zero_le i0
  obtain ⟨v, hv, hcell⟩ := CellsAt.some64 [x, 4611686018427387903 - y, z] hblk
    (by repeat (first | exact I64s.nil | refine I64s.cons (by omega) (by omega) ?_)) k (by simp; omega)
  clear S4 gb5 hblk
  go_wp2_with fail
  clear hcell i1 x0 x1 y0 y1 z0 z1
  have S6 := S5.drew
  clear S5
  go_region_with (first
    | (go_at_call 35; refine (below_st w g A l cap _ _ HN.out ?_ ?_).mono ?_; assumption; omega; rintro e wx ⟨x, rfl, ⟨x0, x1⟩, Sx, -⟩; have ltx := Sx.2.lt)
    | (go_at_call 38; refine (num_st w g A l cap _ _ HN.out ?_ ?_ ?_).mono ?_; assumption; omega; omega; rintro e wx ⟨x, rfl, ⟨x0, x1⟩, Sx, -⟩; have ltx := Sx.2.lt)
    | (go_at_call 35; refine (below_st w g A l cap _ _ HN.out ?_ ?_).mono ?_; exact St.alloc (by assumption) _; omega; rintro e wx ⟨i, rfl, ⟨i0, i1⟩, Sx, gbx⟩; obtain ⟨j, rfl⟩ := Int.eq_ofNat_of_zero_le i0; have hblk := (CellsAt.new _ _ _).grown gbx (by intro e; injection e with e; omega); obtain ⟨q, hcell⟩ := CellsAt.someInt [_, _, _] hblk j (by simp; omega); clear hblk gbx))
  go_wp2_with fail
  all_goals
    go_ret2
    first
      | (refine ⟨_, _, rfl, ?_⟩; rw [← HG.out]; exact And.left (show St w g A l cap _ by assumption))
      | (have hx3 : x = 0 ∨ x = 1 ∨ x = 2 := by omega
         have hfin := And.left (St.alloc Sx (.cells #[] 2))
         rcases hx3 with rfl | rfl | rfl <;> (refine ⟨_, _, rfl, ?_⟩; rw [← HG.out]; exact And.left (St.alloc Sx _)))
end Go.Proofs.Ytdikgpgghadalaa.Mx

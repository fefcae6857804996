/- CONTRACTS OF spec.DrawSumOf, DrawLatest: each answers a list of triples in new memory; nothing that was there is written. -/
import Derived.Test.YtdljiccpppcljaaDrawH
namespace Go.Proofs.Ytdljiccpppcljaa.Mx
open Go.ChangeShapes Go.WideShapes Go.ChangeAt Go.RowKit
set_option linter.unusedVariables false

/-- A key and a list of triples. -/
def KeyTris (w : World) (e : Ending) (w' : World) : Prop :=
  ∃ (k : Int) (A : Option Addr) (L : List Tri) (c : Nat), e = .returned (.tuple #[.int .i64 k, .slice A L.length c]) ∧ L.length ≤ 7 ∧ TriI L ∧ Tris w' w'.heap.size A L ∧ Below w.heap.size w w'
/-- A list of triples and a number. -/
def TrisNum (w : World) (e : Ending) (w' : World) : Prop :=
  ∃ (A : Option Addr) (L : List Tri) (c : Nat) (k : Int), e = .returned (.tuple #[.slice A L.length c, .int .i64 k]) ∧ L.length ≤ 7 ∧ TriI L ∧ Tris w' w'.heap.size A L ∧ Below w.heap.size w w'

set_option maxHeartbeats 1000000 in
theorem drawSum_calls (A : Option Addr) (l : List Int) (cap : Nat) (w : World) (hn : l.length ≤ maxLen) (hA : Ints w .u8 w.heap.size A l) :
    Calls Try.prog 8 #[.slice A l.length cap] w (KeyTris w) := by
  have HN := Lib.hid hn
  have HA := Lib.hid hA
  clear hn hA
  obtain ⟨i0, hi, hz0, hz1, hz2⟩ := info_parts3
  go_enter Try.func8, Try.ntmps8
  go_wp2_with fail
  refine (new_calls A l cap _ HN.out HA.out).mono ?_; rintro e w1 ⟨rfl, b1, c1⟩
  have S1 := Lib.hid (St.new b1 c1)
  clear b1 c1 HA
  obtain ⟨g, hg⟩ : ∃ g, g = w.heap.size := ⟨_, rfl⟩
  rw [← hg] at S1 ⊢
  have HG := Lib.hid hg
  clear hg
  go_wp2_with fail
  refine (drawKey_st w g A l cap w1 HN.out S1.out).mono ?_; rintro e w2 ⟨k, rfl, k0, s2, -⟩
  have S2 := Lib.hid s2
  have g2 := s2.2.lt
  clear s2 k0 S1
  go_wp2_with fail
  refine (draw4_calls w g A l cap w2 HN.out S2.out).mono ?_; rintro e w3 ⟨u, L, rfl, hL, r3, s3, g3⟩
  have z3 := g3.size
  have S3 := Lib.hid s3
  have R3 := Lib.hid r3
  clear s3 r3 S2 g3
  go_wp2_with fail
  refine (once_st w g A l cap 6 w3 HN.out S3.out (by omega)).mono ?_; rintro e w4 ⟨b, rfl, s4, g4⟩
  have S4 := Lib.hid s4
  have R4 := Lib.hid (R3.out.grown g4 g2)
  have z4 := g4.size
  clear s4 g4 S3 R3
  rcases b with _ | _
  · obtain ⟨A', c, rfl, hl⟩ := R4.out.lies
    have HLi := Lib.hid hl.tris
    clear hl
    go_wp2_with fail
    go_ret2
    exact ⟨k, A', L, c, rfl, by omega, R4.out.2.at_, HLi.out, by rw [← HG.out]; exact S4.out.1⟩
  · go_wp2_with fail
    refine (draw3Any_calls w g A l cap w4 HN.out S4.out).mono ?_; rintro e wa ⟨x, y, z, rfl, ix, iy, iz, sa, ga⟩
    have SA := Lib.hid sa
    have RA := Lib.hid (R4.out.grown ga g2)
    have base : w2.heap.size ≤ wa.heap.size := by have := ga.size; omega
    have IX := Lib.hid ix
    have IY := Lib.hid iy
    have IZ := Lib.hid iz
    clear sa ga ix iy iz R4 S4
    go_wp2_with (at_builtin; refine wpList_append_own _ rfl _ _ 24 rfl w2.heap.size 32 i0 (.agg #[.int .i64 0, .int .i64 0, .int .i64 0]) 3 24 Try.underlying24 hi hz0 hz1 hz2 rfl (by decide) _ _ _ rfl (RA.out.1.alloc _) ⟨wa.heap.size, 0, none⟩ 1 1 [.int .i64 x, .int .i64 y, .int .i64 z] rfl rfl ?c1 ?c2 ?c3 ?c4 ?c5 ?_)
    case c1 =>
      intro j u hj
      match j, hj with
      | 0, hj => simp at hj; subst hj; simp [Addr.add]
      | 1, hj => simp at hj; subst hj; simp [Addr.add]
      | 2, hj => simp at hj; subst hj; simp [Addr.add]
    case c2 => intro u hu; simp at hu; rcases hu with rfl | rfl | rfl <;> rfl
    case c3 => unfold maxLen; omega
    case c4 => omega
    case c5 => simp; omega
    intro v' wb hown' hgrow _
    have hrowlt := RA.out.1.lt
    have RB := Lib.hid (TRow.snoc RA.out.2 IX.out IY.out IZ.out hown')
    have HLB : Below w2.heap.size (wa.alloc (.cells #[.int .i64 x, .int .i64 y, .int .i64 z] 32)) wb := gr_below hgrow (by simp; omega) (fun k hk => (hrowlt k hk).1)
    have SB := Lib.hid ((SA.out.alloc _).below HLB g2)
    clear hown' hgrow hrowlt HLB
    obtain ⟨A', c, rfl, hl⟩ := RB.out.lies
    have HLi := Lib.hid hl.tris
    clear hl
    go_wp2_with fail
    go_ret2
    exact ⟨k, A', L ++ [(x, y, z)], c, rfl, by simp; omega, RB.out.2.at_, HLi.out, by rw [← HG.out]; exact SB.out.1⟩

set_option maxHeartbeats 1000000 in
theorem drawLatest_calls (A : Option Addr) (l : List Int) (cap : Nat) (w : World) (hn : l.length ≤ maxLen) (hA : Ints w .u8 w.heap.size A l) :
    Calls Try.prog 10 #[.slice A l.length cap] w (TrisNum w) := by
  have HN := Lib.hid hn
  have HA := Lib.hid hA
  clear hn hA
  go_enter Try.func10, Try.ntmps10
  go_wp2_with fail
  refine (new_calls A l cap _ HN.out HA.out).mono ?_; rintro e w1 ⟨rfl, b1, c1⟩
  have S1 := Lib.hid (St.new b1 c1)
  clear b1 c1 HA
  obtain ⟨g, hg⟩ : ∃ g, g = w.heap.size := ⟨_, rfl⟩
  rw [← hg] at S1 ⊢
  have HG := Lib.hid hg
  have g1 := S1.out.2.lt
  clear hg
  go_wp2_with fail
  refine (draw4_calls w g A l cap w1 HN.out S1.out).mono ?_; rintro e w3 ⟨u, L, rfl, hL, r3, s3, -⟩
  have S3 := Lib.hid s3
  have R3 := Lib.hid r3
  clear s3 r3 S1
  go_wp2_with fail
  refine (below_st w g A l cap 5 w3 HN.out S3.out (by omega)).mono ?_; rintro e w4 ⟨x, rfl, ⟨x0, x1⟩, s4, g4⟩
  have S4 := Lib.hid s4
  have R4 := Lib.hid (R3.out.grown g4 g1)
  clear s4 g4 S3 R3
  obtain ⟨A', c, rfl, hl⟩ := R4.out.lies
  have HLi := Lib.hid hl.tris
  clear hl
  go_wp2_with fail
  go_ret2
  exact ⟨A', L, c, x, rfl, by omega, R4.out.2.at_, HLi.out, by rw [← HG.out]; exact S4.out.1⟩
end Go.Proofs.Ytdljiccpppcljaa.Mx

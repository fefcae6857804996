/- CONTRACTS OF spec.DrawMixOf, DrawAddOf: each answers some numbers of type int64 (and a list of such, in new memory); nothing that was there is written. -/
import Derived.Test.YtdikgpgghadalaaDrawB
namespace Go.Proofs.Ytdikgpgghadalaa.Mx
open Go.ChangeShapes Go.WideShapes Go.ChangeAt Go.RowKit
set_option linter.unusedVariables false

theorem info_n64 : (Try.prog.info? 2).map (fun i => (i.zero, i.size, i.bytes)) = some (some (.int .i64 0), 1, 8) := by kernel_rfl

/-- A key and a list of numbers are answered, the list in new memory; nothing that was there is written. -/
def KeyList (w : World) (e : Ending) (w' : World) : Prop :=
  ∃ (key : Int) (A : Option Addr) (zs : List Int) (c : Nat), e = .returned (.tuple #[.int .i64 key, .slice A zs.length c]) ∧ Below w.heap.size w w' ∧ Ints w' .i64 w'.heap.size A zs ∧ I64s zs ∧ zs.length ≤ 6

set_option maxHeartbeats 1000000 in
theorem drawMix_calls (A : Option Addr) (l : List Int) (cap : Nat) (w : World) (hn : l.length ≤ maxLen) (hA : Ints w .u8 w.heap.size A l) :
    Calls Try.prog 20 #[.slice A l.length cap] w (KeyList w) := by
  have HA := Lib.hid hA
  have HN := Lib.hid hn
  clear hA hn
  obtain ⟨i0, hi, hz0, hz1, hz2⟩ := info_parts info_n64
  go_enter Try.func20, Try.ntmps20
  go_wp2_with fail
  refine (new_calls A l cap w HN.out HA.out).mono ?_; rintro e w1 ⟨rfl, b1, c1⟩
  have B1 := Lib.hid b1
  have C1 := Lib.hid c1
  clear b1 c1
  go_wp2_with fail
  refine (drawKey_calls _ A l cap w1 HN.out C1.out).mono ?_; rintro e w2 ⟨key, rfl, ⟨k0, k1⟩, gb2, c2⟩
  have B2 := Lib.hid (bgb B1.out gb2 B1.out.size (Nat.le_refl _))
  have C2 := Lib.hid c2
  clear gb2 c2
  go_wp2_with fail
  refine (below_calls _ A l cap 6 _ HN.out (C2.out.alloc _) (by omega)).mono ?_; rintro e w3 ⟨n, rfl, ⟨n0, n1⟩, gb3, c3⟩
  have hR : Row w3 (w.heap.size + 1) 2 (.slice (some ⟨w2.heap.size, 0, none⟩) 0 0) [] :=
    Row.grown ⟨World.ownsRow_made w2 #[] 0 (by have := C2.out.lt; omega) (by simp [maxLen]) rfl, I64s.nil⟩ gb3 (by omega)
  have B3 := Lib.hid (bgb (B2.out.alloc B2.out.size (.cells #[] 2)) gb3 (by have := B2.out.size; simp; omega) (Nat.le_refl _))
  have C3 := Lib.hid c3
  have R3 := Lib.hid hR
  clear gb3 c3 hR
  obtain ⟨k, rfl⟩ := Int.eq_ofNat_of_zero_le n0
  go_wp2_with fail
  go_loopw [6, 7] (fun v i wr => ∃ (j : Nat) (zs : List Int), i = .int .i64 j ∧ j + zs.length ≤ 5 ∧ Below w.heap.size w wr ∧ Cur wr w.heap.size A l cap ∧ Row wr (w.heap.size + 1) 2 v zs) (fun _ i _ => (intOf i).toNat)
  case atStart => exact ⟨k, [], rfl, by simp; omega, B3.out, C3.out, R3.out⟩
  case round =>
    obtain ⟨j, zs, rfl, hj, hbel, hcur, hrow⟩ := hrel
    have HB := Lib.hid hbel
    have HC := Lib.hid hcur
    have HR := Lib.hid hrow
    clear hbel hcur hrow
    by_cases hlt : 0 < j
    · go_wp2_with fail
      refine (below_calls _ A l cap 1000 _ HN.out HC.out (by omega)).mono ?_; rintro e wa ⟨x, rfl, ⟨x0, x1⟩, gba, ca⟩
      have GA := Lib.hid (bgb HB.out gba HB.out.size (Nat.le_refl _))
      have CA := Lib.hid ca
      have RA := Lib.hid (HR.out.grown gba (by omega))
      clear gba ca
      go_wp2_with (at_builtin; refine wpList_append_own _ rfl _ _ 32 rfl (w.heap.size + 1) 2 i0 (.int .i64 0) 1 8 Try.underlying32 hi hz0 hz1 hz2 rfl (by decide) _ _ _ rfl (RA.out.1.alloc _) ⟨wa.heap.size, 0, none⟩ 1 1 [.int .i64 x] rfl rfl ?c1 ?c2 ?c3 ?c4 ?c5 ?_)
      case c1 =>
        intro j u hj
        match j, hj with
        | 0, hj => simp at hj; subst hj; simp [Addr.add]
      case c2 => intro u hu; simp at hu; subst hu; rfl
      case c3 => unfold maxLen; omega
      case c4 => omega
      case c5 => have := CA.out.lt; simp; omega
      intro v' wb hown' hgrow _
      have hsz := GA.out.size
      have hrowlt := RA.out.1.lt
      have RB := Lib.hid (Row.snoc RA.out.2 (by omega) (by omega) hown')
      have HLB : Below (w.heap.size + 1) (wa.alloc (.cells #[.int .i64 x] 2)) wb := gr_below hgrow (by have := CA.out.lt; simp; omega) (fun k hk => (hrowlt k hk).1)
      have CB := Lib.hid ((CA.out.alloc _).below HLB (by omega))
      have GB := Lib.hid ((GA.out.alloc hsz _).trans (HLB.mono (by omega)))
      clear hown' hgrow hrowlt HLB
      go_wp2_with fail
      go_roundw
      case rel => exact ⟨j - 1, zs ++ [x], by go_num, by simp; omega, GB.out, CB.out, RB.out⟩
      case measure => simp [intOf]; omega
    · obtain rfl : j = 0 := by omega
      go_wp2_with fail
      refine (once_calls _ A l cap 6 _ HN.out HC.out (by omega)).mono ?_; rintro e wa ⟨b1, rfl, gba, ca⟩
      have GA := Lib.hid (bgb HB.out gba HB.out.size (Nat.le_refl _))
      have CA := Lib.hid ca
      have RA := Lib.hid (HR.out.grown gba (by omega))
      clear gba ca
      rcases b1 with _ | _
      · obtain ⟨A', c, rfl, hI⟩ := RA.out.reads
        have HI := Lib.hid hI
        clear hI
        go_wp2_with fail
        go_ret2
        exact ⟨key, A', zs, c, rfl, GA.out, HI.out, RA.out.2, by omega⟩
      · go_wp2_with fail
        refine (odd_calls _ A l cap _ HN.out CA.out).mono ?_; rintro e wb ⟨o, rfl, ⟨o0, o1⟩, gbb, cb⟩
        have GB := Lib.hid (bgb GA.out gbb GA.out.size (Nat.le_refl _))
        have CB := Lib.hid cb
        have RB := Lib.hid (RA.out.grown gbb (by omega))
        clear gbb cb
        go_wp2_with fail
        refine (below_calls _ A l cap 4 _ HN.out (CB.out.alloc _) (by omega)).mono ?_; rintro e wc ⟨x, rfl, ⟨x0, x1⟩, gbc, cc⟩
        have hblk := (CellsAt.new wb _ _).grown gbc (by have := CB.out.lt; intro e; injection e with e; omega)
        obtain ⟨k, rfl⟩ := Int.eq_ofNat_of_zero_le x0
        obtain ⟨v, ⟨v0, v1⟩, hcell⟩ := CellsAt.some64 [-1, 2147483647, 2147483629, o] hblk
          (by repeat (first | exact I64s.nil | refine I64s.cons (by omega) (by omega) ?_)) k (by simp; omega)
        have GC := Lib.hid (bgb (GB.out.alloc GB.out.size (.cells #[.int .i64 (-1), .int .i64 2147483647, .int .i64 2147483629, .int .i64 o] 2)) gbc (by have := GB.out.size; simp; omega) (Nat.le_refl _))
        have CC := Lib.hid cc
        have RC := Lib.hid (Row.grown ⟨RB.out.1.alloc _, RB.out.2⟩ gbc (by omega))
        clear gbc cc hblk
        go_wp2_with (at_builtin; refine wpList_append_own _ rfl _ _ 32 rfl (w.heap.size + 1) 2 i0 (.int .i64 0) 1 8 Try.underlying32 hi hz0 hz1 hz2 rfl (by decide) _ _ _ rfl (RC.out.1.alloc _) ⟨wc.heap.size, 0, none⟩ 1 1 [.int .i64 v] rfl rfl ?d1 ?d2 ?d3 ?d4 ?d5 ?_)
        case d1 =>
          intro j u hj
          match j, hj with
          | 0, hj => simp at hj; subst hj; simp [Addr.add]
        case d2 => intro u hu; simp at hu; subst hu; rfl
        case d3 => unfold maxLen; omega
        case d4 => omega
        case d5 => have := CC.out.lt; simp; omega
        intro v' wd hown' hgrow _
        have hsz := GC.out.size
        have hrowlt := RC.out.1.lt
        have RD := Lib.hid (Row.snoc RC.out.2 v0 v1 hown')
        have HLB : Below (w.heap.size + 1) (wc.alloc (.cells #[.int .i64 v] 2)) wd := gr_below hgrow (by have := CC.out.lt; simp; omega) (fun k hk => (hrowlt k hk).1)
        have GD := Lib.hid ((GC.out.alloc hsz _).trans (HLB.mono (by omega)))
        obtain ⟨A', c, rfl, hI⟩ := RD.out.reads
        have HI := Lib.hid hI
        clear hown' hgrow hrowlt HLB hI
        go_wp2_with fail
        go_ret2
        exact ⟨key, A', zs ++ [v], c, rfl, GD.out, HI.out, RD.out.2, by simp; omega⟩
end Go.Proofs.Ytdikgpgghadalaa.Mx

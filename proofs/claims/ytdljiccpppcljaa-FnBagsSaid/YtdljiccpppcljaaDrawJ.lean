/- CONTRACT OF spec.DrawSameBag: it answers two lists of triples in new memory; nothing that was there is written. -/
import Derived.Test.YtdljiccpppcljaaDrawI
namespace Go.Proofs.Ytdljiccpppcljaa.Mx
open Go.ChangeShapes Go.WideShapes Go.ChangeAt Go.RowKit
set_option linter.unusedVariables false

def TwoTris (w : World) (e : Ending) (w' : World) : Prop :=
  ∃ (A : Option Addr) (a : List Tri) (ca : Nat) (B : Option Addr) (b : List Tri) (cb : Nat), e = .returned (.tuple #[.slice A a.length ca, .slice B b.length cb]) ∧ a.length ≤ 7 ∧ b.length ≤ 7 ∧ TriI a ∧ TriI b ∧ Tris w' w'.heap.size A a ∧ Tris w' w'.heap.size B b ∧ Below w.heap.size w w'

theorem Lies.more {w : World} {lo hi hi' : Nat} {A : Option Addr} {L : List Tri} (h : Lies w lo hi A L) (hh : hi ≤ hi') : Lies w lo hi' A L := by
  intro i hi2
  obtain ⟨b, off, e, h0, h1, c⟩ := h i hi2
  exact ⟨b, off, e, h0, Nat.lt_of_lt_of_le h1 hh, c⟩
theorem TRow.below {w w' : World} {base : Nat} {v : Value} {L : List Tri} (h : TRow w base v L) (hb : Below w.heap.size w w') : TRow w' base v L := by
  refine ⟨⟨h.1.1, ?_⟩, h.2⟩
  rcases h.1.2 with h0 | ⟨g, cap, cur, e, hg, hc, r⟩
  · exact .inl h0
  · exact .inr ⟨g, cap, cur, e, hg, (hb.block g (Array.getElem?_eq_some_iff.1 hc).1).trans hc, r⟩
/-- A row that is not empty. -/
theorem TRow.form {w : World} {base : Nat} {v : Value} {T : Tri} {L : List Tri} (h : TRow w base v (T :: L)) :
    ∃ gb cap n, n = L.length ∧ v = .slice (some ⟨gb, 0, none⟩) (n + 1) cap ∧ base ≤ gb ∧ gb < w.heap.size ∧ n + 1 ≤ cap ∧ cap ≤ maxLen := by
  rcases h.1.2 with ⟨_, hn⟩ | ⟨g, cap, cur, e, hg, hc, h1, h2, _⟩
  · simp at hn
  · exact ⟨g, cap, _, rfl, e, hg, (Array.getElem?_eq_some_iff.1 hc).1, h1, h2⟩
theorem TRow.set {w : World} {base gb n cap : Nat} {L L' : List Tri} (h : TRow w base (.slice (some ⟨gb, 0, none⟩) n cap) L) (j : Nat) (u : Value) (hl : L'.length = L.length) (hf : flatT L' = (flatT L).set j u) (hm : TriM L') : TRow (w.setCell ⟨gb, j, none⟩ u) base (.slice (some ⟨gb, 0, none⟩) n cap) L' := by
  obtain ⟨h1, h2⟩ := h
  have hn : n = L.length := by
    rcases h1.2 with ⟨e, _⟩ | ⟨_, _, _, e, _⟩
    · simp at e
    · simp at e; exact e.2.1
  subst hn
  refine ⟨?_, hm⟩
  rw [hl, hf]
  exact (h1.stored j u).1
theorem TRow.cells {w : World} {base gb n cap : Nat} {L : List Tri} (h : TRow w base (.slice (some ⟨gb, 0, none⟩) n cap) L) (i : Nat) (hi : i < L.length) :
    w.cell? ⟨gb, i * 3, none⟩ = some (.int .i64 (L.getD i (0, 0, 0)).1) ∧ w.cell? ⟨gb, i * 3 + 1, none⟩ = some (.int .i64 (L.getD i (0, 0, 0)).2.1) ∧ w.cell? ⟨gb, i * 3 + 2, none⟩ = some (.int .i64 (L.getD i (0, 0, 0)).2.2) := by
  have hn : n = L.length := by
    rcases h.1.2 with ⟨e, _⟩ | ⟨_, _, _, e, _⟩
    · simp at e
    · simp at e; exact e.2.1
  subst hn
  refine ⟨?_, ?_, ?_⟩
  · rw [h.1.cellAt (i * 3) (by omega), show i * 3 = i * 3 + 0 from rfl, flatT_get L i 0 hi (by omega)]; rfl
  · rw [h.1.cellAt (i * 3 + 1) (by omega), flatT_get L i 1 hi (by omega)]; rfl
  · rw [h.1.cellAt (i * 3 + 2) (by omega), flatT_get L i 2 hi (by omega)]; rfl
theorem TRow.frozen {w : World} {base gb n cap : Nat} {L : List Tri} (h : TRow w base (.slice (some ⟨gb, 0, none⟩) n cap) L) (j : Nat) : w.frozen? ⟨gb, j, none⟩ = false := by
  have hn : n = L.length := by
    rcases h.1.2 with ⟨e, _⟩ | ⟨_, _, _, e, _⟩
    · simp at e
    · simp at e; exact e.2.1
  subst hn
  exact h.1.frozenAt j
theorem i64_wrapped (x : Int) : I64 (wrap64 x) := by
  unfold wrap64
  exact ⟨by omega, by omega⟩
/-- A tail of what lies there. -/
theorem Lies.tail {w : World} {lo hi b off : Nat} {T : Tri} {L : List Tri} (h : Lies w lo hi (some ⟨b, off, none⟩) (T :: L)) : Lies w lo hi (some ⟨b, off + 3, none⟩) L := by
  intro i hi2
  obtain ⟨b', off', e, h0, h1, c0, c1, c2⟩ := h (i + 1) (by simpa using hi2)
  simp only [Option.some.injEq, Addr.mk.injEq, and_true] at e
  obtain ⟨rfl, rfl⟩ := e
  refine ⟨b, off + 3, rfl, h0, h1, ?_, ?_, ?_⟩
  · rw [show off + 3 + i * 3 = off + (i + 1) * 3 by omega]; simpa using c0
  · rw [show off + 3 + i * 3 + 1 = off + (i + 1) * 3 + 1 by omega]; simpa using c1
  · rw [show off + 3 + i * 3 + 2 = off + (i + 1) * 3 + 2 by omega]; simpa using c2

theorem TRow.cells0 {w : World} {base gb n cap : Nat} {T : Tri} {L : List Tri} (h : TRow w base (.slice (some ⟨gb, 0, none⟩) n cap) (T :: L)) :
    w.cell? ⟨gb, 0, none⟩ = some (.int .i64 T.1) ∧ w.cell? ⟨gb, 1, none⟩ = some (.int .i64 T.2.1) ∧ w.cell? ⟨gb, 2, none⟩ = some (.int .i64 T.2.2) := h.cells 0 (by simp)
/-- What stands where a cell of the first triple has turned. -/
structure Stands (w wq w' : World) (g base gb n cb lo hi : Nat) (Aa : Option Addr) (a L : List Tri) : Prop where
  row : TRow w' base (.slice (some ⟨gb, 0, none⟩) n cb) L
  lies : Lies w' lo hi Aa a
  below : Below g w w'
  size : hi ≤ w'.heap.size
theorem Stands.mk' {w wq : World} {g base gb n cb lo hi : Nat} {Aa : Option Addr} {a L : List Tri} (h1 : TRow wq base (.slice (some ⟨gb, 0, none⟩) n cb) L) (h2 : Lies wq lo hi Aa a) (h3 : Below g w wq) (h4 : hi ≤ wq.heap.size) : Stands w wq wq g base gb n cb lo hi Aa a L := ⟨h1, h2, h3, h4⟩
theorem Stands.set {w wq w' : World} {g base gb n cb lo hi : Nat} {Aa : Option Addr} {a L L' : List Tri} (h : Stands w wq w' g base gb n cb lo hi Aa a L) (hgb : base ≤ gb) (hb : hi ≤ base) (hg : g ≤ gb) (j : Nat) (u : Value) (hl : L'.length = L.length) (hf : flatT L' = (flatT L).set j u) (hm : TriM L') :
    Stands w wq (w'.setCell ⟨gb, j, none⟩ u) g base gb n cb lo hi Aa a L' :=
  ⟨h.row.set j u hl hf hm, h.lies.below ((Below.refl base w').setCell hgb _) hb, h.below.setCell hg _, by simpa [World.setCell] using h.size⟩
theorem Stands.time {w wq w' : World} {g base gb n cb lo hi : Nat} {Aa : Option Addr} {a R : List Tri} {p q r : Int} (h : Stands w wq w' g base gb n cb lo hi Aa a ((p, q, r) :: R)) (hgb : base ≤ gb) (hb : hi ≤ base) (hg : g ≤ gb) (x : Int) (hx : I64 x) :
    Stands w wq (w'.setCell ⟨gb, 1, none⟩ (.int .i64 x)) g base gb n cb lo hi Aa a ((p, x, r) :: R) :=
  h.set hgb hb hg 1 _ rfl rfl ((TriM.cons (fun T hT => h.row.2 T (List.mem_cons_of_mem _ hT)) (h.row.2 _ (List.mem_cons_self ..)).1 hx (h.row.2 _ (List.mem_cons_self ..)).2.2))
theorem Stands.three {w wq w' : World} {g base gb n cb lo hi : Nat} {Aa : Option Addr} {a R : List Tri} {T : Tri} (h : Stands w wq w' g base gb n cb lo hi Aa a (T :: R)) (hgb : base ≤ gb) (hb : hi ≤ base) (hg : g ≤ gb) (p q r : Int) (hp : I64 p) (hq : I64 q) (hr : I64 r) :
    Stands w wq (((w'.setCell ⟨gb, 0, none⟩ (.int .i64 p)).setCell ⟨gb, 1, none⟩ (.int .i64 q)).setCell ⟨gb, 2, none⟩ (.int .i64 r)) g base gb n cb lo hi Aa a ((p, q, r) :: R) := by
  have hR : TriM R := fun T hT => h.row.2 T (List.mem_cons_of_mem _ hT)
  obtain ⟨ip, iq, ir⟩ := h.row.2 T (List.mem_cons_self ..)
  have h1 : Stands w wq (w'.setCell ⟨gb, 0, none⟩ (.int .i64 p)) g base gb n cb lo hi Aa a ((p, T.2.1, T.2.2) :: R) := h.set hgb hb hg 0 _ rfl rfl (hR.cons hp iq ir)
  have h2 : Stands w wq ((w'.setCell ⟨gb, 0, none⟩ (.int .i64 p)).setCell ⟨gb, 1, none⟩ (.int .i64 q)) g base gb n cb lo hi Aa a ((p, q, T.2.2) :: R) := h1.set hgb hb hg 1 _ rfl rfl (hR.cons hp hq ir)
  exact h2.set hgb hb hg 2 _ rfl rfl (hR.cons hp hq hr)
/-- The end: two slices are answered. -/
theorem Stands.out {w wq w' : World} {g base gb n cb lo hi ca : Nat} {Aa : Option Addr} {a L : List Tri} (h : Stands w wq w' g base gb n cb lo hi Aa a L) (hG : g = w.heap.size) (ha : a.length ≤ 6) (hL : L.length ≤ 6) (hm : TriM a) :
    TwoTris w (.returned (.tuple #[.slice Aa a.length ca, .slice (some ⟨gb, 0, none⟩) n cb])) w' := by
  obtain ⟨B, c, e, hl⟩ := h.row.lies
  simp only [Value.slice.injEq] at e
  obtain ⟨rfl, rfl, rfl⟩ := e
  exact ⟨Aa, a, ca, _, L, _, rfl, by omega, by omega, hm.at_, h.row.2.at_, h.lies.tris.more h.size, hl.tris, hG ▸ h.below⟩
theorem two_out {w w' : World} {g lo hi ca lb cb : Nat} {Aa B : Option Addr} {a b : List Tri} (hG : g = w.heap.size) (ha : a.length ≤ 6) (hb : b.length ≤ 6) (hm : TriM a) (hn : TriM b) (hl : Lies w' lo hi Aa a) (hs : hi ≤ w'.heap.size) (hB : Tris w' w'.heap.size B b) (hbl : Below g w w') (hlb : lb = b.length) :
    TwoTris w (.returned (.tuple #[.slice Aa a.length ca, .slice B lb cb])) w' := by
  subst hlb
  exact ⟨Aa, a, ca, B, b, cb, rfl, by omega, by omega, hm.at_, hn.at_, hl.tris.more hs, hB, hG ▸ hbl⟩

set_option maxHeartbeats 2000000 in
theorem drawSame_calls (A : Option Addr) (l : List Int) (cap : Nat) (w : World) (hn : l.length ≤ maxLen) (hA : Ints w .u8 w.heap.size A l) :
    Calls Try.prog 9 #[.slice A l.length cap] w (TwoTris w) := by
  have HN := Lib.hid hn
  have HA := Lib.hid hA
  clear hn hA
  obtain ⟨i0, hi, hz0, hz1, hz2⟩ := info_parts3
  go_enter Try.func9, Try.ntmps9
  go_wp2_with fail
  refine (new_calls A l cap _ HN.out HA.out).mono ?_; rintro e w1 ⟨rfl, b1, c1⟩
  have S1 := Lib.hid (St.new b1 c1)
  clear b1 c1 HA
  obtain ⟨g, hg⟩ : ∃ g, g = w.heap.size := ⟨_, rfl⟩
  rw [← hg] at S1 ⊢
  have HG := Lib.hid hg
  have g1 := S1.out.2.lt
  clear hg
  go_wp2_with fail
  refine (draw4_calls w g A l cap w1 HN.out S1.out).mono ?_; rintro e w2 ⟨u, a, rfl, ha, r2, s2, g2⟩
  have L3z := g2.size
  have S2 := Lib.hid s2
  obtain ⟨Aa, ca, rfl, hl⟩ := r2.lies
  have L2 := Lib.hid hl
  have MA := Lib.hid r2.2
  clear s2 r2 S1 hl g2
  go_wp2_with fail
  refine (once_st w g A l cap 4 w2 HN.out S2.out (by omega)).mono ?_; rintro e w3 ⟨bb, rfl, s3, g3⟩
  have S3 := Lib.hid s3
  have L3 := Lib.hid (L2.out.gb g3 g1)
  have z3 := g3.size
  clear s3 g3 S2 L2
  rcases bb with _ | _
  · go_wp2_with fail
    have RB := Lib.hid (TRow.made w3 w3.heap.size (Nat.le_refl _))
    have BB := Lib.hid ((Below.refl w3.heap.size w3).alloc (Nat.le_refl _) (.cells #[] 32))
    go_loopw [6, 7] (fun v i wr => ∃ (j : Nat) (R : List Tri), i = .int .i64 ((j : Int) - 1) ∧ R.length + j = a.length ∧ TRow wr w3.heap.size v R ∧ Below w3.heap.size w3 wr) (fun _ i _ => (intOf i + 1).toNat)
    case atStart => exact ⟨a.length, [], rfl, by simp, RB.out, BB.out⟩
    case round =>
      obtain ⟨j, R, rfl, hj, hrow, hbel⟩ := hrel
      have HR := Lib.hid hrow
      have HB := Lib.hid hbel
      clear hrow hbel
      rcases j with _ | m
      · have HLn := Lib.hid (show R.length = a.length by omega)
        clear hj
        rw [show (((0 : Nat) : Int) - 1) = -1 by omega]
        have SA := Lib.hid (S3.out.below HB.out (Nat.lt_of_lt_of_le g1 (Nat.le_trans L3z z3)))
        have LA := Lib.hid (L3.out.below HB.out z3)
        have zr := HB.out.size
        have ZM := Lib.hid (Nat.le_trans z3 zr)
        clear HB
        go_wp2_with fail
        refine (once_st w g A l cap 2 wr HN.out SA.out (by omega)).mono ?_; rintro e wt ⟨bt, rfl, st, gt⟩
        have ST := Lib.hid st
        have LT := Lib.hid (LA.out.gb gt g1)
        have RT := Lib.hid (HR.out.grown gt (by omega))
        have zt := gt.size
        clear st gt SA LA HR
        have ZL := Lib.hid (show w2.heap.size ≤ wt.heap.size by omega)
        rcases bt with _ | _
        · obtain ⟨B, cb, rfl, hl⟩ := RT.out.lies
          have LB := Lib.hid hl.tris
          have NL := Lib.hid (show R.length ≤ 6 by have := HLn.out; omega)
          clear hl
          go_wp2_with fail
          go_ret2
          exact two_out HG.out ha NL.out MA.out RT.out.2 LT.out ZL.out LB.out ST.out.1 rfl
        · rcases R with _ | ⟨T, R⟩
          · obtain ⟨B, cb, rfl, hl⟩ := RT.out.lies
            have LB := Lib.hid hl.tris
            clear hl
            go_wp2_with fail
            go_ret2
            exact two_out HG.out ha (b := []) (Nat.zero_le _) MA.out RT.out.2 LT.out ZL.out LB.out ST.out.1 rfl
          · obtain ⟨gb, cb, n, hn, rfl, hgb, hgt, hcb, hcm⟩ := RT.out.form
            have hpos : 0 < ((n + 1 : Nat) : Int) := by omega
            have hgg : g ≤ gb := by omega
            have NL := Lib.hid (show R.length + 1 ≤ 6 by have := HLn.out; simp at this; omega)
            have n5 : n ≤ 5 := by have := NL.out; omega
            have HN2 := Lib.hid hn
            clear hn
            go_wp2_with fail
            refine (below_st w g A l cap 3 wt HN.out ST.out (by omega)).mono ?_; rintro e wq ⟨x, rfl, ⟨x0, x1⟩, sq, gq⟩
            have QQ := Lib.hid (Stands.mk' (RT.out.grown gq (by omega)) (LT.out.gb gq g1) sq.1 (Nat.le_trans ZL.out gq.size))
            have hx : x = 0 ∨ x = 1 ∨ x = 2 := by omega
            clear x0 x1 sq gq ST LT RT
            rcases hx with rfl | rfl | rfl
            · obtain ⟨p, q, r⟩ := T
              obtain ⟨-, c1, -⟩ := QQ.out.row.cells0
              have f1 := QQ.out.row.frozen 1
              have RW := Lib.hid (QQ.out.time hgb z3 hgg (wrap64 (q + 1)) (i64_wrapped _))
              clear QQ
              simp only at c1
              go_wp2_with fail
              go_ret2
              exact RW.out.out HG.out ha NL.out MA.out
            · obtain ⟨B, cb2, eB, hl⟩ := QQ.out.row.lies
              simp only [Value.slice.injEq] at eB
              obtain ⟨rfl, -, -⟩ := eB
              have LB := Lib.hid hl.tail.tris
              have LE := Lib.hid (show cb = 1 → R = [] from fun h => List.length_eq_zero_iff.1 (by have := HN2.out; omega))
              have hRm : TriM R := fun T hT => QQ.out.row.2 T (List.mem_cons_of_mem _ hT)
              have RM := Lib.hid hRm
              have N2 := Lib.hid (show R.length ≤ 6 by have := NL.out; omega)
              clear hl hRm
              go_wp2_with fail
              · have hR := LE.out (by first | rfl | assumption | omega)
                subst hR
                go_ret2
                exact two_out HG.out ha (b := []) (Nat.zero_le _) MA.out RM.out QQ.out.lies QQ.out.size (fun i hi => by simp at hi) QQ.out.below HN2.out
              · go_ret2
                exact two_out HG.out ha N2.out MA.out RM.out QQ.out.lies QQ.out.size LB.out QQ.out.below HN2.out
            · have hTL := QQ.out.row.cells n (by have := HN2.out; simp; omega)
              have MT := QQ.out.row.2 _ (getD_mem (show n < (T :: R).length by have := HN2.out; simp; omega))
              generalize (T :: R).getD n (0, 0, 0) = U at hTL MT
              obtain ⟨p, q, r⟩ := U
              obtain ⟨e0, e1, e2⟩ := hTL
              obtain ⟨c0, c1, c2⟩ := QQ.out.row.cells0
              simp only at e0 e1 e2 MT c0 c1 c2
              have f0 := QQ.out.row.frozen 0
              have f1 := QQ.out.row.frozen 1
              have f2 := QQ.out.row.frozen 2
              have RW := Lib.hid (QQ.out.three hgb z3 hgg p q r MT.1 MT.2.1 MT.2.2)
              clear MT QQ hcb hcm hpos
              have hn6 : n = 0 ∨ n = 1 ∨ n = 2 ∨ n = 3 ∨ n = 4 ∨ n = 5 := by omega
              clear n5
              rcases hn6 with rfl | rfl | rfl | rfl | rfl | rfl
              · simp only [Nat.reduceMul, Nat.reduceAdd] at e0 e1 e2
                clear c0 c1 c2
                go_wp2_with fail
                go_ret2
                have rw := RW.out
                simp only [Nat.reduceAdd] at rw
                exact rw.out HG.out ha NL.out MA.out
              all_goals
                simp only [Nat.reduceMul, Nat.reduceAdd] at e0 e1 e2
                go_wp2_with fail
                go_ret2
                have rw := RW.out
                simp only [Nat.reduceAdd] at rw
                exact rw.out HG.out ha NL.out MA.out
      · rw [show (((m + 1 : Nat) : Int) - 1) = (m : Int) by omega]
        have hm : m < a.length := by omega
        have hm' : (m : Int) < a.length := by omega
        have hm0 : (0 : Int) ≤ m := by omega
        obtain ⟨b, off, rfl, -, hb, c0, c1, c2⟩ := (L3.out.below HB.out z3) m hm
        have IM := Lib.hid (MA.out.at_ m hm)
        generalize a.getD m (0, 0, 0) = T at c0 c1 c2 IM
        obtain ⟨x, y, z⟩ := T
        simp only at c0 c1 c2
        have zr := HB.out.size
        go_wp2_with (at_builtin; refine wpList_append_own _ rfl _ _ 24 rfl w3.heap.size 32 i0 (.agg #[.int .i64 0, .int .i64 0, .int .i64 0]) 3 24 Try.underlying24 hi hz0 hz1 hz2 rfl (by decide) _ _ _ rfl (HR.out.1.alloc _) ⟨wr.heap.size, 0, none⟩ 1 1 [.int .i64 x, .int .i64 y, .int .i64 z] rfl rfl ?q1 ?q2 ?q3 ?q4 ?q5 ?_)
        case q2 => exact ⟨rfl, rfl, rfl⟩
        case q3 => unfold maxLen; omega
        case q4 => omega
        case q5 => (first | omega | (simp; omega))
        intro v' wb hown' hgrow _
        have hrowlt := HR.out.1.lt
        have RB := Lib.hid (TRow.snoc HR.out.2 IM.out.1 IM.out.2.1 IM.out.2.2 hown')
        have HLB : Below w3.heap.size (wr.alloc (.cells #[.int .i64 x, .int .i64 y, .int .i64 z] 32)) wb := gr_below hgrow (by simp; omega) (fun k hk => (hrowlt k hk).1)
        have BX := Lib.hid ((HB.out.alloc zr _).trans HLB)
        clear hown' hgrow hrowlt HLB c0 c1 c2
        go_wp2_with fail
        go_roundw
        case rel => exact ⟨m, R ++ [(x, y, z)], by go_num, by simp; omega, RB.out, BX.out⟩
        case measure => (first | (simp [intOf]; done) | (simp [intOf]; omega))
  · go_wp2_with fail
    refine (draw4_calls w g A l cap w3 HN.out S3.out).mono ?_; rintro e w4 ⟨u, b, rfl, hb, r4, s4, g4⟩
    have S4 := Lib.hid s4
    have L4 := Lib.hid (L3.out.gb g4 g1)
    have z4 := g4.size
    obtain ⟨Ab, cb, rfl, hl⟩ := r4.lies
    have LB := Lib.hid hl.tris
    have MB := Lib.hid r4.2
    clear s4 g4 r4 hl S3 L3
    go_wp2_with fail
    go_ret2
    exact ⟨Aa, a, ca, Ab, b, cb, rfl, by omega, by omega, MA.out.at_, MB.out.at_, L4.out.tris.more (by omega), LB.out, by rw [← HG.out]; exact S4.out.1⟩
end Go.Proofs.Ytdljiccpppcljaa.Mx

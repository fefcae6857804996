/- REGIONS THAT MAKE MEMORY OF THEIR OWN: what each free operation has made stands in blocks of its own, whatever the order. No function in sight. -/
import Derived.Test.YthbkccagpggljaaRd
namespace Go.Proofs.Ythbkccagpggljaa.Mx
open Go.RowKit
set_option linter.unusedVariables false

/-- Something that a region makes: the place k where it is made; the place j where it is filled (k itself, if it is made whole); the blocks that it lies in; what holds of it, before and once it has been filled. -/
structure Own where
  k : Nat
  j : Nat
  fp : Value → List Nat
  holds : Bool → Value → World → Prop
/-- What holds of it hangs on its blocks alone. -/
def Own.Stable (x : Own) : Prop := ∀ d v u u', x.holds d v u → (∀ g ∈ x.fp v, u'.heap[g]? = u.heap[g]?) → x.holds d v u'
/-- The boxes of L are kept, the results' boxes are as ResC says; what has been made holds, in blocks from n0 on, each thing in blocks of its own (but for the pairs of EX: what is appended to, and what comes of it). -/
def OwnC (b : World) (n0 : Nat) (L : List Box) (RS : List Res) (OS : List Own) (EX : Nat → Nat → Bool) (D : Nat → Bool) (γ : Nat → Value) (u : World) : Prop :=
  ResC b L RS D u ∧ b.heap.size ≤ n0 ∧ n0 ≤ u.heap.size ∧ (∀ x ∈ L, x.1 < n0) ∧ (∀ x ∈ RS, x.2.1 < n0) ∧
  (∀ x ∈ OS, D x.k = true → x.holds (D x.j) (γ x.k) u ∧ ∀ g ∈ x.fp (γ x.k), n0 ≤ g ∧ g < u.heap.size) ∧
  (∀ x ∈ OS, ∀ y ∈ OS, x.k ≠ y.k → EX x.k y.k = false → D x.k = true → D y.k = true → ∀ g ∈ x.fp (γ x.k), g ∉ y.fp (γ y.k)) ∧ (∀ x ∈ OS, D x.j = true → D x.k = true)
namespace OwnC
variable {b u v : World} {n0 : Nat} {L : List Box} {RS : List Res} {OS : List Own} {EX : Nat → Nat → Bool} {D : Nat → Bool} {γ γ' : Nat → Value} {k p : Nat} {t : TypeId} {V : Array Value}
theorem loc (ha : ∀ i, D i = true → γ i = γ' i) (h : OwnC b n0 L RS OS EX D γ u) : OwnC b n0 L RS OS EX D γ' u := by
  obtain ⟨h1, h2, h3, h4, h5, h6, h7, h8⟩ := h
  refine ⟨h1, h2, h3, h4, h5, fun x hx hd => ?_, fun x hx y hy hne hex hdx hdy => ?_, h8⟩
  · rw [← ha _ hd]; exact h6 x hx hd
  · rw [← ha _ hdx, ← ha _ hdy]; exact h7 x hx y hy hne hex hdx hdy
theorem start (h : ResC b L RS (fun _ => false) u) (hb : b.heap.size ≤ n0) (hn : n0 ≤ u.heap.size) (hL : ∀ x ∈ L, x.1 < n0) (hR : ∀ x ∈ RS, x.2.1 < n0) : OwnC b n0 L RS OS EX (fun _ => false) γ u :=
  ⟨h, hb, hn, hL, hR, fun _ _ e => (by cases e), fun _ _ _ _ _ _ e => (by cases e), fun _ _ e => (by cases e)⟩
/-- An operation that makes none of these, and fills none. -/
theorem below (hs : ∀ x ∈ OS, x.Stable) (h : OwnC b n0 L RS OS EX D γ u) (hb : Below u.heap.size u v) (k : Nat) (w : Value) (hk : (∀ x ∈ RS, x.1 ≠ k) ∧ ∀ x ∈ OS, x.k ≠ k ∧ x.j ≠ k) : OwnC b n0 L RS OS EX (setD D k) (setG γ k w) v := by
  obtain ⟨h1, h2, h3, h4, h5, h6, h7, h8⟩ := h
  refine ⟨h1.below hb k hk.1, h2, Nat.le_trans h3 hb.size, h4, h5, fun x hx hd => ?_, fun x hx y hy hne hex hdx hdy => ?_, fun x hx hd => ?_⟩
  · have hn := hk.2 x hx
    unfold setD setG at *
    simp only [Bool.or_eq_true, beq_iff_eq, hn.1, false_or] at hd
    obtain ⟨e1, e2⟩ := h6 x hx hd
    rw [if_neg hn.1, show (x.j == k || D x.j) = D x.j by simp [hn.2]]
    exact ⟨hs x hx _ _ _ _ e1 fun g hg => hb.block g (e2 g hg).2, fun g hg => ⟨(e2 g hg).1, Nat.lt_of_lt_of_le (e2 g hg).2 hb.size⟩⟩
  · have hnx := (hk.2 x hx).1
    have hny := (hk.2 y hy).1
    unfold setG setD at *
    rw [if_neg hnx, if_neg hny]
    exact h7 x hx y hy hne hex (by simpa [hnx] using hdx) (by simpa [hny] using hdy)
  · have hn := hk.2 x hx
    unfold setD at *
    rw [h8 x hx (by simpa [hn.2] using hd)]; simp
/-- A store into a result's box. -/
theorem stored (hs : ∀ x ∈ OS, x.Stable) (h : OwnC b n0 L RS OS EX D γ u) (hm : (k, p, t, V) ∈ RS) (hd : ∀ x ∈ RS, x = (k, p, t, V) ∨ (x.1 ≠ k ∧ x.2.1 ≠ p)) (hN : ∀ x ∈ OS, x.k ≠ k ∧ x.j ≠ k) (hg : u.grownBy v (some p)) (hc : CellsAt v p t V) (w : Value) :
    OwnC b n0 L RS OS EX (setD D k) (setG γ k w) v := by
  obtain ⟨h1, h2, h3, h4, h5, h6, h7, h8⟩ := h
  have hp := h5 _ hm
  simp only at hp
  refine ⟨h1.stored hm hd hg hc, h2, Nat.le_trans h3 hg.size, h4, h5, fun x hx hd => ?_, fun x hx y hy hne hex hdx hdy => ?_, fun x hx hd => ?_⟩
  · have hn := hN x hx
    unfold setD setG at *
    simp only [Bool.or_eq_true, beq_iff_eq, hn.1, false_or] at hd
    obtain ⟨e1, e2⟩ := h6 x hx hd
    rw [if_neg hn.1, show (x.j == k || D x.j) = D x.j by simp [hn.2]]
    exact ⟨hs x hx _ _ _ _ e1 fun g hgf => hg.block g (e2 g hgf).2 (by intro e; injection e with e; have := (e2 g hgf).1; omega), fun g hgf => ⟨(e2 g hgf).1, Nat.lt_of_lt_of_le (e2 g hgf).2 hg.size⟩⟩
  · have hnx := (hN x hx).1
    have hny := (hN y hy).1
    unfold setG setD at *
    rw [if_neg hnx, if_neg hny]
    exact h7 x hx y hy hne hex (by simpa [hnx] using hdx) (by simpa [hny] using hdy)
  · have hn := hN x hx
    unfold setD at *
    rw [h8 x hx (by simpa [hn.2] using hd)]; simp
/-- Something is made: in new blocks. -/
theorem made (hs : ∀ x ∈ OS, x.Stable) (h : OwnC b n0 L RS OS EX D γ u) {z : Own} (hm : z ∈ OS) (hR : ∀ x ∈ RS, x.1 ≠ z.k) (hN : ∀ x ∈ OS, x = z ∨ (x.k ≠ z.k ∧ x.j ≠ z.k)) (hk : D z.k = false) (hb : Below u.heap.size u v) {w : Value}
    (hw : z.holds (z.j == z.k) w v) (hf : ∀ g ∈ z.fp w, u.heap.size ≤ g ∧ g < v.heap.size) : OwnC b n0 L RS OS EX (setD D z.k) (setG γ z.k w) v := by
  obtain ⟨h1, h2, h3, h4, h5, h6, h7, h8⟩ := h
  have old : ∀ x ∈ OS, x ≠ z → setD D z.k x.k = true → D x.k = true ∧ setG γ z.k w x.k = γ x.k := by
    intro x hx hne hd
    rcases hN x hx with e | hn
    · exact absurd e hne
    · unfold setD setG at *
      exact ⟨by simpa [hn.1] using hd, if_neg hn.1⟩
  have new : setG γ z.k w z.k = w := if_pos rfl
  refine ⟨h1.below hb z.k hR, h2, Nat.le_trans h3 hb.size, h4, h5, fun x hx hd => ?_, fun x hx y hy hne hex hdx hdy => ?_, fun x hx hd => ?_⟩
  · by_cases hxz : x = z
    · subst hxz
      rw [new]
      have hj : setD D x.k x.j = (x.j == x.k) := by
        unfold setD
        cases hjk : (x.j == x.k) with
        | true => rfl
        | false =>
          cases hdj : D x.j with
          | false => rfl
          | true => have := h8 x hx hdj; rw [hk] at this; cases this
      rw [hj]
      exact ⟨hw, fun g hg => ⟨Nat.le_trans h3 (hf g hg).1, (hf g hg).2⟩⟩
    · obtain ⟨a1, a2⟩ := old x hx hxz hd
      obtain ⟨e1, e2⟩ := h6 x hx a1
      have hn : x.k ≠ z.k ∧ x.j ≠ z.k := by rcases hN x hx with e | hn; exact absurd e hxz; exact hn
      rw [a2, show setD D z.k x.j = D x.j by unfold setD; simp [hn.2]]
      exact ⟨hs x hx _ _ _ _ e1 fun g hg => hb.block g (e2 g hg).2, fun g hg => ⟨(e2 g hg).1, Nat.lt_of_lt_of_le (e2 g hg).2 hb.size⟩⟩
  · by_cases hxz : x = z
    · subst hxz
      have hyz : y ≠ x := fun e => hne (by rw [e])
      obtain ⟨b1, b2⟩ := old y hy hyz hdy
      rw [new, b2]
      intro g hg hgy
      have e1 := (hf g hg).1
      have e2 := ((h6 y hy b1).2 g hgy).2
      omega
    · obtain ⟨a1, a2⟩ := old x hx hxz hdx
      by_cases hyz : y = z
      · subst hyz
        rw [new, a2]
        intro g hg hgy
        have e1 := (hf g hgy).1
        have e2 := ((h6 x hx a1).2 g hg).2
        omega
      · obtain ⟨b1, b2⟩ := old y hy hyz hdy
        rw [a2, b2]
        exact h7 x hx y hy hne hex a1 b1
  · rcases hN x hx with rfl | hn
    · simp [setD]
    · unfold setD at *
      rw [h8 x hx (by simpa [hn.2] using hd)]; simp
/-- Of something that has been made. -/
theorem at_ (h : OwnC b n0 L RS OS EX D γ u) {z : Own} (hm : z ∈ OS) (hk : D z.k = true) : z.holds (D z.j) (γ z.k) u ∧ ∀ g ∈ z.fp (γ z.k), n0 ≤ g ∧ g < u.heap.size := h.2.2.2.2.2.1 z hm hk
/-- Something is filled: only its blocks turn. -/
theorem filled (hs : ∀ x ∈ OS, x.Stable) (h : OwnC b n0 L RS OS EX D γ u) {z : Own} (hm : z ∈ OS) (hk : D z.k = true) (hR : ∀ x ∈ RS, x.1 ≠ z.j) (hN : ∀ x ∈ OS, x = z ∨ (x.k ≠ z.k ∧ x.k ≠ z.j ∧ x.j ≠ z.j)) (hX : ∀ x ∈ OS, x = z ∨ EX x.k z.k = false) (hkj : z.k ≠ z.j) (hp : p ∈ z.fp (γ z.k)) (hg : u.grownBy v (some p))
    (hw : z.holds true (γ z.k) v) (w : Value) : OwnC b n0 L RS OS EX (setD D z.j) (setG γ z.j w) v := by
  obtain ⟨h1, h2, h3, h4, h5, h6, h7, h8⟩ := h
  have hpn := ((h6 z hm hk).2 p hp).1
  have old : ∀ x ∈ OS, x.k ≠ z.j := fun x hx => by rcases hN x hx with rfl | hn; exact hkj; exact hn.2.1
  refine ⟨?_, h2, Nat.le_trans h3 hg.size, h4, h5, fun x hx hd => ?_, fun x hx y hy hne hex hdx hdy => ?_, fun x hx hd => ?_⟩
  · refine ⟨h1.1.grown hg (by omega) (fun y hy => by have := h4 y hy; omega), fun x hx => ?_⟩
    obtain ⟨a1, a2, zz, a3, a4, a5⟩ := h1.2 x hx
    refine ⟨a1, a2, zz, a3.grown hg (by intro e; injection e with e; have := h5 x hx; omega), a4, fun e => a5 ?_⟩
    unfold setD at e
    simpa [hR x hx] using e
  · have hxj := old x hx
    have hdx : D x.k = true := by unfold setD at hd; simpa [hxj] using hd
    have e3 : setG γ z.j w x.k = γ x.k := if_neg hxj
    rw [e3]
    obtain ⟨e1, e2⟩ := h6 x hx hdx
    rcases hN x hx with rfl | hn
    · rw [show setD D x.j x.j = true by simp [setD]]
      exact ⟨hw, fun g hgf => ⟨(e2 g hgf).1, Nat.lt_of_lt_of_le (e2 g hgf).2 hg.size⟩⟩
    · rw [show setD D z.j x.j = D x.j by unfold setD; simp [hn.2.2]]
      exact ⟨hs x hx _ _ _ _ e1 fun g hgf => hg.block g (e2 g hgf).2 (by intro e; injection e with e; subst e; exact h7 x hx z hm hn.1 (by rcases hX x hx with e | e; exact absurd (by rw [e]) hn.1; exact e) hdx hk g hgf hp), fun g hgf => ⟨(e2 g hgf).1, Nat.lt_of_lt_of_le (e2 g hgf).2 hg.size⟩⟩
  · have hxj := old x hx
    have hyj := old y hy
    unfold setD setG at *
    rw [if_neg hxj, if_neg hyj]
    exact h7 x hx y hy hne hex (by simpa [hxj] using hdx) (by simpa [hyj] using hdy)
  · rcases hN x hx with rfl | hn
    · unfold setD; rw [hk]; simp
    · unfold setD at *
      rw [h8 x hx (by simpa [hn.2.2] using hd)]; simp
/-- What y has made is handed on to z, grown in place or anew: y is done with. -/
theorem moved (hs : ∀ x ∈ OS, x.Stable) (h : OwnC b n0 L RS OS EX D γ u) {y z : Own} (hy : y ∈ OS) (hm : z ∈ OS) (hyj : y.j = z.k) (hzj : z.j = z.k) (hyk : D y.k = true) (hR : ∀ x ∈ RS, x.1 ≠ z.k)
    (hN : ∀ x ∈ OS, x = z ∨ x = y ∨ (x.k ≠ z.k ∧ x.j ≠ z.k ∧ x.k ≠ y.k ∧ EX x.k y.k = false ∧ EX y.k x.k = false)) (hne : y.k ≠ z.k) (hX : EX y.k z.k = true ∧ EX z.k y.k = true) (hk : D z.k = false)
    (hp : y.fp (γ y.k) = [p]) (hg : u.grownBy v (some p)) {w : Value} (hw : z.holds true w v) (hyw : y.holds true (γ y.k) v) (hf : ∀ g ∈ z.fp w, g = p ∨ u.heap.size ≤ g) (hfv : ∀ g ∈ z.fp w, g < v.heap.size) : OwnC b n0 L RS OS EX (setD D z.k) (setG γ z.k w) v := by
  obtain ⟨h1, h2, h3, h4, h5, h6, h7, h8⟩ := h
  have hpn := (h6 y hy hyk).2 p (by rw [hp]; simp)
  have new : setG γ z.k w z.k = w := if_pos rfl
  have oldG : ∀ x : Own, x.k ≠ z.k → setG γ z.k w x.k = γ x.k := fun x hx => if_neg hx
  have oldD : ∀ x : Own, x.k ≠ z.k → setD D z.k x.k = true → D x.k = true := fun x hx hd => by unfold setD at hd; simpa [hx] using hd
  refine ⟨?_, h2, Nat.le_trans h3 hg.size, h4, h5, fun x hx hd => ?_, fun x hx x' hx' hnn hex hdx hdy => ?_, fun x hx hd => ?_⟩
  · refine ⟨h1.1.grown hg (by omega) (fun y hy => by have := h4 y hy; omega), fun x hx => ?_⟩
    obtain ⟨a1, a2, zz, a3, a4, a5⟩ := h1.2 x hx
    refine ⟨a1, a2, zz, a3.grown hg (by intro e; injection e with e; have := h5 x hx; omega), a4, fun e => a5 ?_⟩
    unfold setD at e
    simpa [hR x hx] using e
  · rcases hN x hx with rfl | rfl | ⟨n1, n2, n3, n4, n5⟩
    · rw [new, hzj, show setD D x.k x.k = true by simp [setD]]
      exact ⟨hw, fun g hgf => ⟨by rcases hf g hgf with rfl | h; exact hpn.1; omega, hfv g hgf⟩⟩
    · rw [oldG x hne, hyj, show setD D z.k z.k = true by simp [setD]]
      exact ⟨hyw, fun g hgf => ⟨((h6 x hx hyk).2 g hgf).1, Nat.lt_of_lt_of_le ((h6 x hx hyk).2 g hgf).2 hg.size⟩⟩
    · rw [oldG x n1, show setD D z.k x.j = D x.j by unfold setD; simp [n2]]
      have hdx := oldD x n1 hd
      obtain ⟨e1, e2⟩ := h6 x hx hdx
      exact ⟨hs x hx _ _ _ _ e1 fun g hgf => hg.block g (e2 g hgf).2 (by intro e; injection e with e; subst e; exact h7 x hx y hy n3 n4 hdx hyk g hgf (by rw [hp]; simp)), fun g hgf => ⟨(e2 g hgf).1, Nat.lt_of_lt_of_le (e2 g hgf).2 hg.size⟩⟩
  · have far : ∀ x ∈ OS, x ≠ z → x ≠ y → setD D z.k x.k = true → ∀ g ∈ z.fp w, g ∉ x.fp (γ x.k) := by
      intro x hx n1 n2 hd g hgz hgx
      rcases hN x hx with e | e | ⟨m1, m2, m3, m4, m5⟩
      · exact n1 e
      · exact n2 e
      · have hdx := oldD x m1 hd
        rcases hf g hgz with rfl | hge
        · exact h7 y hy x hx (Ne.symm m3) m5 hyk hdx g (by rw [hp]; simp) hgx
        · have := ((h6 x hx hdx).2 g hgx).2; omega
    by_cases hxz : x = z
    · subst hxz
      have hx'z : x'.k ≠ x.k := Ne.symm hnn
      have hx'y : x' ≠ y := by rintro rfl; rw [hX.2] at hex; cases hex
      rw [new, oldG x' hx'z]
      exact far x' hx' (fun e => hx'z (by rw [e])) hx'y hdy
    · have hxk : x.k ≠ z.k := by
        rcases hN x hx with e | e | m
        · exact absurd e hxz
        · rw [e]; exact hne
        · exact m.1
      by_cases hx'z : x' = z
      · subst hx'z
        have hxy : x ≠ y := by rintro rfl; rw [hX.1] at hex; cases hex
        rw [new, oldG x hxk]
        intro g hgx hgz
        exact far x hx hxz hxy hdx g hgz hgx
      · have hx'k : x'.k ≠ z.k := by
          rcases hN x' hx' with e | e | m
          · exact absurd e hx'z
          · rw [e]; exact hne
          · exact m.1
        rw [oldG x hxk, oldG x' hx'k]
        exact h7 x hx x' hx' hnn hex (oldD x hxk hdx) (oldD x' hx'k hdy)
  · rcases hN x hx with rfl | rfl | ⟨n1, n2, n3, n4, n5⟩
    · simp [setD]
    · unfold setD; rw [hyk]; simp
    · unfold setD at *
      rw [h8 x hx (by simpa [n2] using hd)]; simp
theorem done (h : OwnC b n0 L RS OS EX D γ u) (hR : ∀ x ∈ RS, D x.1 = true) : Kept b (RS.map (fun x => (x.2.1, x.2.2.1, x.2.2.2)) ++ L) u := h.1.done hR
end OwnC

/-- The box of a result, stored once at place j: what is stored is told by the values at the places ks. -/
structure OutB where
  r : Nat
  t : TypeId
  size : Nat
  j : Nat
  ks : List Nat
  V : (Nat → Value) → Array Value
def OutB.Ok (o : OutB) (b : World) (n0 : Nat) (L : List Box) : Prop := b.heap.size ≤ o.r ∧ o.r < n0 ∧ (∀ y ∈ L, y.1 ≠ o.r) ∧ (∀ γ γ', (∀ i ∈ o.ks, γ i = γ' i) → o.V γ = o.V γ') ∧ (∀ γ, (o.V γ).size = o.size) ∧ o.j ∉ o.ks
/-- As OwnC, with the box of one result. -/
def OwnR (b : World) (n0 : Nat) (L : List Box) (OS : List Own) (EX : Nat → Nat → Bool) (o : OutB) (D : Nat → Bool) (γ : Nat → Value) (u : World) : Prop :=
  OwnC b n0 L [] OS EX D γ u ∧ (∃ z, CellsAt u o.r o.t z ∧ z.size = o.size ∧ (D o.j = true → z = o.V γ)) ∧ (D o.j = true → ∀ i ∈ o.ks, D i = true)
namespace OwnR
variable {b u v : World} {n0 : Nat} {L : List Box} {OS : List Own} {EX : Nat → Nat → Bool} {o : OutB} {D : Nat → Bool} {γ γ' : Nat → Value} {k : Nat}
theorem loc (ho : o.Ok b n0 L) (ha : ∀ i, D i = true → γ i = γ' i) (h : OwnR b n0 L OS EX o D γ u) : OwnR b n0 L OS EX o D γ' u := by
  obtain ⟨h1, ⟨z, h2, h3, h4⟩, h5⟩ := h
  refine ⟨h1.loc ha, ⟨z, h2, h3, fun e => ?_⟩, h5⟩
  rw [h4 e]
  exact ho.2.2.2.1 γ γ' fun i hi => ha i (h5 e i hi)
theorem start (h : Kept b L u) (hb : b.heap.size ≤ n0) (hn : n0 ≤ u.heap.size) (hL : ∀ x ∈ L, x.1 < n0) {z : Array Value} (hz : CellsAt u o.r o.t z) (hs : z.size = o.size) : OwnR b n0 L OS EX o (fun _ => false) γ u.drew :=
  ⟨OwnC.start (ResC.start h (fun x hx => by cases hx)) hb hn hL (fun x hx => by cases hx), ⟨z, hz.drew, hs, fun e => (by cases e)⟩, fun e => (by cases e)⟩
/-- The rest, where the store is still to come: a step at place k that leaves the result's box alone. -/
theorem step (ho : o.Ok b n0 L) (h : OwnR b n0 L OS EX o D γ u) (hk : k ≠ o.j) (hD : D k = false) {w : Value} (hc : OwnC b n0 L [] OS EX (setD D k) (setG γ k w) v) (hr : v.heap[o.r]? = u.heap[o.r]?) : OwnR b n0 L OS EX o (setD D k) (setG γ k w) v := by
  obtain ⟨h1, ⟨z, h2, h3, h4⟩, h5⟩ := h
  refine ⟨hc, ⟨z, by unfold CellsAt at *; rw [hr]; exact h2, h3, fun e => ?_⟩, fun e i hi => ?_⟩
  · have e' : D o.j = true := by unfold setD at e; simpa [Ne.symm hk] using e
    rw [h4 e']
    refine ho.2.2.2.1 γ _ fun i hi => ?_
    have : i ≠ k := by rintro rfl; have := h5 e' i hi; rw [hD] at this; cases this
    unfold setG; rw [if_neg this]
  · have e' : D o.j = true := by unfold setD at e; simpa [Ne.symm hk] using e
    unfold setD; rw [h5 e' i hi]; simp
theorem lt (ho : o.Ok b n0 L) (h : OwnR b n0 L OS EX o D γ u) : o.r < u.heap.size := Nat.lt_of_lt_of_le ho.2.1 h.1.2.2.1
theorem below (ho : o.Ok b n0 L) (hs : ∀ x ∈ OS, x.Stable) (h : OwnR b n0 L OS EX o D γ u) (hb : Below u.heap.size u v) (hD : D k = false) (w : Value) (hk : k ≠ o.j) (hO : ∀ x ∈ OS, x.k ≠ k ∧ x.j ≠ k) : OwnR b n0 L OS EX o (setD D k) (setG γ k w) v :=
  h.step ho hk hD (h.1.below hs hb k w ⟨fun x hx => (by cases hx), hO⟩) (hb.block _ (h.lt ho))
theorem made (ho : o.Ok b n0 L) (hs : ∀ x ∈ OS, x.Stable) (h : OwnR b n0 L OS EX o D γ u) {z : Own} (hm : z ∈ OS) (hN : ∀ x ∈ OS, x = z ∨ (x.k ≠ z.k ∧ x.j ≠ z.k)) (hk : D z.k = false) (hj : z.k ≠ o.j) (hb : Below u.heap.size u v) {w : Value}
    (hw : z.holds (z.j == z.k) w v) (hf : ∀ g ∈ z.fp w, u.heap.size ≤ g ∧ g < v.heap.size) : OwnR b n0 L OS EX o (setD D z.k) (setG γ z.k w) v :=
  h.step ho hj hk (h.1.made hs hm (fun x hx => by cases hx) hN hk hb hw hf) (hb.block _ (h.lt ho))
theorem moved (ho : o.Ok b n0 L) (hs : ∀ x ∈ OS, x.Stable) (h : OwnR b n0 L OS EX o D γ u) {y z : Own} {p : Nat} (hy : y ∈ OS) (hm : z ∈ OS) (hyj : y.j = z.k) (hzj : z.j = z.k) (hyk : D y.k = true)
    (hN : ∀ x ∈ OS, x = z ∨ x = y ∨ (x.k ≠ z.k ∧ x.j ≠ z.k ∧ x.k ≠ y.k ∧ EX x.k y.k = false ∧ EX y.k x.k = false)) (hne : y.k ≠ z.k) (hX : EX y.k z.k = true ∧ EX z.k y.k = true) (hk : D z.k = false) (hj : z.k ≠ o.j)
    (hp : y.fp (γ y.k) = [p]) (hg : u.grownBy v (some p)) {w : Value} (hw : z.holds true w v) (hyw : y.holds true (γ y.k) v) (hf : ∀ g ∈ z.fp w, g = p ∨ u.heap.size ≤ g) (hfv : ∀ g ∈ z.fp w, g < v.heap.size) : OwnR b n0 L OS EX o (setD D z.k) (setG γ z.k w) v := by
  have hpn := (h.1.at_ hy hyk).2 p (by rw [hp]; simp)
  refine h.step ho hj hk (h.1.moved hs hy hm hyj hzj hyk (fun x hx => by cases hx) hN hne hX hk hp hg hw hyw hf hfv) (hg.block _ (h.lt ho) ?_)
  intro e; injection e with e
  have := ho.2.1; omega
/-- The store. -/
theorem stored (ho : o.Ok b n0 L) (hs : ∀ x ∈ OS, x.Stable) (h : OwnR b n0 L OS EX o D γ u) (hO : ∀ x ∈ OS, x.k ≠ o.j ∧ x.j ≠ o.j) (hd : ∀ i ∈ o.ks, D i = true) (hg : u.grownBy v (some o.r)) (hc : CellsAt v o.r o.t (o.V γ)) (w : Value) : OwnR b n0 L OS EX o (setD D o.j) (setG γ o.j w) v := by
  obtain ⟨⟨a1, a2, a3, a4, a5, a6, a7, a8⟩, _, h5⟩ := h
  have eV : o.V (setG γ o.j w) = o.V γ := ho.2.2.2.1 _ _ fun i hi => by unfold setG; rw [if_neg]; rintro rfl; exact ho.2.2.2.2.2 hi
  refine ⟨⟨?_, a2, Nat.le_trans a3 hg.size, a4, a5, fun x hx hdx => ?_, fun x hx y hy hne hex hdx hdy => ?_, fun x hx hdx => ?_⟩, ⟨o.V γ, hc, ho.2.2.2.2.1 γ, fun _ => eV.symm⟩, fun _ i hi => by unfold setD; rw [hd i hi]; simp⟩
  · exact ⟨a1.1.grown hg ho.1 ho.2.2.1, fun x hx => by cases hx⟩
  · have hn := hO x hx
    unfold setD setG at *
    simp only [Bool.or_eq_true, beq_iff_eq, hn.1, false_or] at hdx
    obtain ⟨e1, e2⟩ := a6 x hx hdx
    rw [if_neg hn.1, show (x.j == o.j || D x.j) = D x.j by simp [hn.2]]
    exact ⟨hs x hx _ _ _ _ e1 fun g hgf => hg.block g (e2 g hgf).2 (by intro e; injection e with e; have := (e2 g hgf).1; have := ho.2.1; omega), fun g hgf => ⟨(e2 g hgf).1, Nat.lt_of_lt_of_le (e2 g hgf).2 hg.size⟩⟩
  · have hnx := (hO x hx).1
    have hny := (hO y hy).1
    unfold setG setD at *
    rw [if_neg hnx, if_neg hny]
    exact a7 x hx y hy hne hex (by simpa [hnx] using hdx) (by simpa [hny] using hdy)
  · have hn := hO x hx
    unfold setD at *
    rw [a8 x hx (by simpa [hn.2] using hdx)]; simp
theorem box (h : OwnR b n0 L OS EX o D γ u) : ∃ z, CellsAt u o.r o.t z ∧ z.size = o.size := by
  obtain ⟨_, ⟨z, h2, h3, _⟩, _⟩ := h
  exact ⟨z, h2, h3⟩
theorem done (h : OwnR b n0 L OS EX o D γ u) (hj : D o.j = true) : CellsAt u o.r o.t (o.V γ) ∧ Kept b L u := by
  obtain ⟨h1, ⟨z, h2, _, h4⟩, _⟩ := h
  rw [h4 hj] at h2
  exact ⟨h2, h1.1.1⟩
end OwnR

/-- What the free operations' values are like. -/
def ShL (l : List (Nat × (Value → Prop))) : Nat → Value → Prop := fun i v => match l.lookup i with | some P => P v | none => v = undef
theorem ShL.inh (l : List (Nat × (Value → Prop))) (h : ∀ x ∈ l, ∃ v, x.2 v) (i : Nat) : ∃ v, ShL l i v := by
  unfold ShL
  cases e : l.lookup i with
  | none => exact ⟨_, rfl⟩
  | some P =>
    have : ∃ x ∈ l, x.2 = P := by
      clear h
      induction l with
      | nil => cases e
      | cons y l ih =>
        rw [List.lookup_cons] at e
        split at e
        · injection e with e; exact ⟨y, List.mem_cons_self .., e⟩
        · obtain ⟨x, hx, h2⟩ := ih e; exact ⟨x, List.mem_cons_of_mem _ hx, h2⟩
    obtain ⟨x, hx, rfl⟩ := this
    exact h x hx
/-- A box that is made empty and filled by a store. -/
def ownBox (k j : Nat) (t : TypeId) (V : Array Value) : Own :=
  ⟨k, j, fun v => match v with | .pointer (some a) => [a.block] | _ => [], fun d v u => ∃ g z, v = .pointer (some ⟨g, 0, none⟩) ∧ CellsAt u g t z ∧ z.size = V.size ∧ (d = true → z = V)⟩
theorem ownBox.stable (k j : Nat) (t : TypeId) (V : Array Value) : (ownBox k j t V).Stable := by
  intro d v u u' ⟨g, z, e, h1, h2, h3⟩ hf
  subst e
  exact ⟨g, z, rfl, by unfold CellsAt at *; rw [hf g (by simp [ownBox])]; exact h1, h2, h3⟩
/-- An empty row that is made, to be appended to. -/
def ownNil (k j base : Nat) (t : TypeId) (size : Nat) : Own :=
  ⟨k, j, fun v => match v with | .slice (some a) _ _ => [a.block] | _ => [], fun d v u => d = false → ∃ g, v = .slice (some ⟨g, 0, none⟩) 0 0 ∧ u.ownsRow base t size v 0 []⟩
theorem ownNil.stable (k j base : Nat) (t : TypeId) (size : Nat) : (ownNil k j base t size).Stable := by
  intro d v u u' h hf hd
  obtain ⟨g, e, h2⟩ := h hd
  refine ⟨g, e, h2.1, ?_⟩
  subst e
  rcases h2.2 with h0 | ⟨g', cap, cur, e, hb, hg, r⟩
  · exact .inl h0
  · refine .inr ⟨g', cap, cur, e, hb, ?_, r⟩
    simp only [Value.slice.injEq, Option.some.injEq, Addr.mk.injEq] at e
    rw [hf g' (by rw [← e.1.1]; simp [ownNil])]; exact hg
/-- A row that is made whole: the slice value owns its block. -/
def ownRow (k : Nat) (base : Nat) (t : TypeId) (size n : Nat) (xs : List Value) : Own :=
  ⟨k, k, fun v => match v with | .slice (some a) _ _ => [a.block] | _ => [], fun _ v u => u.ownsRow base t size v n xs⟩
theorem ownRow.stable (k base : Nat) (t : TypeId) (size n : Nat) (xs : List Value) : (ownRow k base t size n xs).Stable := by
  intro d v u u' h hf
  refine ⟨h.1, ?_⟩
  rcases h.2 with h0 | ⟨g, cap, cur, e, hb, hg, r⟩
  · exact .inl h0
  · subst e
    refine .inr ⟨g, cap, cur, rfl, hb, ?_, r⟩
    rw [hf g (by simp [ownRow])]; exact hg
end Go.Proofs.Ythbkccagpggljaa.Mx

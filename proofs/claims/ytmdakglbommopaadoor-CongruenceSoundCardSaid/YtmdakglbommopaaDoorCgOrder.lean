/- Join and Meet of residues are bounds of the order, in plain integers. No condition. -/
import Derived.Test.YtmdakglbommopaaDoorCgMath
namespace Go.Proofs.YtmdakglbommopaaDoor
open Go.RowKit (wrap32 wrap64)
set_option linter.unusedVariables false
set_option linter.unusedSimpArgs false
namespace Rs
def F (x : Rs) : Prop := x = non ∨ ∃ k, G x k
theorem F.form {x : Rs} (h : F x) : form x = x := by
  rcases h with rfl | ⟨k, h⟩
  · exact form_non
  · exact h.form
theorem f_form (a : Rs) : F (Rs.form a) := form_good a
theorem down_le : ∀ (k : Nat) (d : Int), down k d ≤ k
  | 0, _ => Nat.le_refl _
  | k + 1, d => by
    simp only [down]
    split
    · omega
    · have := down_le k d; omega
theorem down_dvd : ∀ (k : Nat) (d : Int), D (down k d) d
  | 0, d => d_zero d
  | k + 1, d => by
    simp only [down]
    split
    · rename_i h; exact D.mod.1 h
    · exact down_dvd k d
theorem down_most : ∀ (k : Nat) (d : Int) (i : Nat), i ≤ k → D i d → i ≤ down k d
  | 0, _, i, h, _ => by simp only [down]; omega
  | k + 1, d, i, h, hd => by
    simp only [down]
    split
    · exact h
    · rename_i hn
      by_cases e : i = k + 1
      · subst e; exact absurd (D.mod.2 hd) hn
      · exact down_most k d i (by omega) hd
theorem down_neg : ∀ (k : Nat) (d e : Int), e = -d → down k e = down k d
  | 0, _, _, _ => rfl
  | k + 1, d, e, h => by
    subst h
    have hd : (-d) % 2 ^ (k + 1) = 0 ↔ d % 2 ^ (k + 1) = 0 := by rw [D.mod, D.mod]; exact ⟨fun h => by have := h.neg; rwa [Int.neg_neg] at this, D.neg⟩
    simp only [down, hd, down_neg k d (-d) rfl]
theorem low_eq {a b : Int} {k : Nat} (h : D (min k 30) (a - b)) : low a k = low b k := by
  unfold low
  rw [Int.emod_eq_emod_iff_emod_sub_eq_zero.2 (D.mod.2 h)]
/-- What Join answers for two different residues that are not None. -/
def jn (x y : Rs) : Rs := low x.r (down (min (min (bt x) (bt y)) 30) (x.r - y.r))
theorem join_form {x y : Rs} (hx : F x) (hy : F y) : join x y = join' x y := by unfold join; rw [hx.form, hy.form]
theorem jn_spec {x y : Rs} {i j : Nat} (hx : G x i) (hy : G y j) : ∃ t, G (jn x y) t ∧ t ≤ i ∧ t ≤ j ∧ D t ((jn x y).r - x.r) ∧ D t (x.r - y.r) ∧ ∀ k, k ≤ i → k ≤ j → k ≤ 30 → D k (x.r - y.r) → k ≤ t := by
  have h1 := down_le (min (min (bt x) (bt y)) 30) (x.r - y.r)
  have h2 := down_dvd (min (min (bt x) (bt y)) 30) (x.r - y.r)
  have h3 := down_most (min (min (bt x) (bt y)) 30) (x.r - y.r)
  have h4 := g_low x.r (down (min (min (bt x) (bt y)) 30) (x.r - y.r))
  have h5 := d_emod (min (down (min (min (bt x) (bt y)) 30) (x.r - y.r)) 30) x.r
  rw [hx.bt, hy.bt] at h1 h2 h3 h4 h5
  refine ⟨down (min (min i j) 30) (x.r - y.r), ?_, by omega, by omega, ?_, h2, fun k a b c d => h3 k (by omega) d⟩
  · unfold jn; rw [hx.bt, hy.bt]; rwa [show min (down (min (min i j) 30) (x.r - y.r)) 30 = down (min (min i j) 30) (x.r - y.r) by omega] at h4
  · unfold jn; rw [hx.bt, hy.bt]
    rw [show min (down (min (min i j) 30) (x.r - y.r)) 30 = down (min (min i j) 30) (x.r - y.r) by omega] at h5
    show D _ (x.r % 2 ^ min (down (min (min i j) 30) (x.r - y.r)) 30 - x.r)
    rw [show min (down (min (min i j) 30) (x.r - y.r)) 30 = down (min (min i j) 30) (x.r - y.r) by omega]
    exact h5
theorem join_good {x y : Rs} (hx : F x) (hy : F y) : F (join x y) := by
  rw [join_form hx hy]
  unfold join'
  split
  · exact hy
  · split
    · exact hx
    · exact .inr ⟨_, g_low _ _⟩
theorem leq_refl' {x : Rs} (hx : F x) : leq x x = true := by have := leq_refl x; rwa [hx.form] at this
theorem join_up {x y : Rs} (hx : F x) (hy : F y) : leq x (join x y) = true ∧ leq y (join x y) = true := by
  rw [join_form hx hy]
  unfold join'
  rcases hx with rfl | ⟨i, gx⟩
  · rw [if_pos rfl]; exact ⟨leq_non _, leq_refl' hy⟩
  · rw [if_neg gx.ne]
    rcases hy with rfl | ⟨j, gy⟩
    · rw [if_pos (.inl rfl)]; exact ⟨leq_refl' (.inr ⟨_, gx⟩), leq_non _⟩
    · by_cases e : x = y
      · subst e; rw [if_pos (.inr rfl)]; exact ⟨leq_refl' (.inr ⟨_, gx⟩), leq_refl' (.inr ⟨_, gx⟩)⟩
      · rw [if_neg (by rintro (h | h); exact gy.ne h; exact e h)]
        obtain ⟨t, gt, h1, h2, h3, h4, _⟩ := jn_spec gx gy
        exact ⟨(leq_iff gx gt).2 ⟨h1, h3.flip⟩, (leq_iff gy gt).2 ⟨h2, (h3.trans h4).flip⟩⟩
theorem join_least {x y z : Rs} (hx : F x) (hy : F y) (hz : F z) (h1 : leq x z = true) (h2 : leq y z = true) : leq (join x y) z = true := by
  rw [join_form hx hy]
  unfold join'
  rcases hx with rfl | ⟨i, gx⟩
  · rw [if_pos rfl]; exact h2
  · rw [if_neg gx.ne]
    rcases hy with rfl | ⟨j, gy⟩
    · rw [if_pos (.inl rfl)]; exact h1
    · by_cases e : x = y
      · subst e; rw [if_pos (.inr rfl)]; exact h1
      · rw [if_neg (by rintro (h | h); exact gy.ne h; exact e h)]
        rcases hz with rfl | ⟨k, gz⟩
        · rw [leq_to_non gx] at h1; exact absurd h1 (by decide)
        · obtain ⟨t, gt, t1, t2, t3, t4, t5⟩ := jn_spec gx gy
          obtain ⟨a1, a2⟩ := (leq_iff gx gz).1 h1
          obtain ⟨b1, b2⟩ := (leq_iff gy gz).1 h2
          have hd : D k (x.r - y.r) := a2.trans b2.flip
          have hk : k ≤ 30 := by
            rcases gz.m with ⟨_, rfl⟩ | ⟨_, h, _⟩
            · have := gx.le; have := gy.le
              obtain rfl : i = 32 := by omega
              obtain rfl : j = 32 := by omega
              exact absurd (gx.ext gy hd) e
            · exact h
          have hkt := t5 k a1 b1 hk hd
          exact (leq_iff gt gz).2 ⟨hkt, (t3.less hkt).trans a2⟩
theorem join_comm {x y : Rs} (hx : F x) (hy : F y) : join y x = join x y := by
  rw [join_form hx hy, join_form hy hx]
  unfold join'
  by_cases ex : x = non
  · subst ex
    rw [if_pos rfl]
    by_cases ey : y = non
    · rw [if_pos ey, ey]
    · rw [if_neg ey, if_pos (.inl rfl)]
  · rw [if_neg ex]
    by_cases ey : y = non
    · rw [if_pos ey, if_pos (.inl ey)]
    · rw [if_neg ey]
      by_cases e : x = y
      · subst e; rfl
      · rw [if_neg (by rintro (h | h); exact ex h; exact e h.symm), if_neg (by rintro (h | h); exact ey h; exact e h)]
        have e1 : down (min (min (bt y) (bt x)) 30) (y.r - x.r) = down (min (min (bt x) (bt y)) 30) (x.r - y.r) := by
          rw [show min (min (bt y) (bt x)) 30 = min (min (bt x) (bt y)) 30 by omega]
          exact down_neg _ _ _ (by omega)
        rw [e1]
        have q := down_dvd (min (min (bt x) (bt y)) 30) (x.r - y.r)
        exact (low_eq (q.less (by omega))).symm
theorem leq_anti {x y : Rs} (hx : F x) (hy : F y) (h : leq x y = true) (h' : leq y x = true) : x = y := by
  rcases hx with rfl | ⟨i, gx⟩
  · rcases hy with rfl | ⟨j, gy⟩
    · rfl
    · rw [leq_to_non gy] at h'; exact absurd h' (by decide)
  · rcases hy with rfl | ⟨j, gy⟩
    · rw [leq_to_non gx] at h; exact absurd h (by decide)
    · obtain ⟨a1, a2⟩ := (leq_iff gx gy).1 h
      obtain ⟨b1, _⟩ := (leq_iff gy gx).1 h'
      obtain rfl : i = j := by omega
      exact gx.ext gy a2
theorem meet_form {x y : Rs} (hx : F x) (hy : F y) : meet x y = if leq x y = true then x else if leq y x = true then y else non := by unfold meet; rw [hx.form, hy.form]
theorem meet_good {x y : Rs} (hx : F x) (hy : F y) : F (meet x y) := by
  rw [meet_form hx hy]
  split
  · exact hx
  · split
    · exact hy
    · exact .inl rfl
theorem meet_low {x y : Rs} (hx : F x) (hy : F y) : leq (meet x y) x = true ∧ leq (meet x y) y = true := by
  rw [meet_form hx hy]
  split
  · rename_i h; exact ⟨leq_refl' hx, h⟩
  · split
    · rename_i h; exact ⟨h, leq_refl' hy⟩
    · exact ⟨leq_non _, leq_non _⟩
theorem has_non (v : Int) : has non v = false := by unfold has has'; rw [form_non]; simp
theorem has_leq {x y : Rs} (hx : F x) (hy : F y) (h : leq x y = true) {v : Int} (hv : has x v = true) : has y v = true := by
  rcases hx with rfl | ⟨i, gx⟩
  · rw [has_non] at hv; exact absurd hv (by decide)
  · rcases hy with rfl | ⟨j, gy⟩
    · rw [leq_to_non gx] at h; exact absurd h (by decide)
    · obtain ⟨a1, a2⟩ := (leq_iff gx gy).1 h
      obtain ⟨b1, b2⟩ := (has_iff gx v).1 hv
      exact (has_iff gy v).2 ⟨(b1.less a1).trans a2, b2⟩
/-- What lies in both lies in Meet. -/
theorem has_meet {x y : Rs} (hx : F x) (hy : F y) (v : Int) : (has x v && has y v) = has (meet x y) v := by
  rw [Bool.eq_iff_iff, Bool.and_eq_true]
  constructor
  · rintro ⟨h1, h2⟩
    rw [meet_form hx hy]
    split
    · exact h1
    · split
      · exact h2
      · rename_i n1 n2
        rcases hx with rfl | ⟨i, gx⟩
        · rw [has_non] at h1; exact absurd h1 (by decide)
        · rcases hy with rfl | ⟨j, gy⟩
          · rw [has_non] at h2; exact absurd h2 (by decide)
          · obtain ⟨a1, _⟩ := (has_iff gx v).1 h1
            obtain ⟨b1, _⟩ := (has_iff gy v).1 h2
            by_cases h : i ≤ j
            · exact absurd ((leq_iff gy gx).2 ⟨h, (b1.less h).flip.trans a1⟩) n2
            · exact absurd ((leq_iff gx gy).2 ⟨by omega, (a1.less (by omega)).flip.trans b1⟩) n1
  · intro h
    have hm := meet_low hx hy
    exact ⟨has_leq (meet_good hx hy) hx hm.1 h, has_leq (meet_good hx hy) hy hm.2 h⟩

/-! ### What the laws make -/
/-- The residue of a number and a choice. -/
def made (n k : Int) : Rs := if k % 36 = 35 then non else if 30 < k % 36 then sing n else low n (if 150 < k then (k % 5).toNat else (k % 36).toNat)
theorem made_f (n k : Int) (hk : 0 ≤ k) : F (made n k) := by
  unfold made
  split
  · exact .inl rfl
  · split
    · exact .inr ⟨_, g_sing _⟩
    · exact .inr ⟨_, g_low _ _⟩
end Rs
end Go.Proofs.YtmdakglbommopaaDoor

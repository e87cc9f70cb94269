/- The order of intervals of words: narrower intervals have narrower results; Join and Meet are its bounds; Refine loses nothing. No condition. -/
import Derived.Test.YtdajgopgaklipaaIvSound
namespace Go.Proofs.Ytdajgopgaklipaa
open Go.RowKit (wrap32 wrap64)
set_option linter.unusedVariables false
set_option linter.unusedSimpArgs false
namespace Iv
theorem nar_mk {p q m n : Int} (h1 : m ≤ p) (h2 : p ≤ q) (h3 : q ≤ n) : Nar (mk' p q) (mk' m n) := by
  rw [mk_le h2, mk_le (by omega)]; exact ⟨h1, h3⟩
theorem hull_in {a b c d m n : Int} (hm : -2147483648 ≤ m) (hn : n ≤ 2147483647) (ha : m ≤ a ∧ a ≤ n) (hb : m ≤ b ∧ b ≤ n) (hc : m ≤ c ∧ c ≤ n) (hd : m ≤ d ∧ d ≤ n) : Nar (hull a b c d) (mk' m n) := by
  have h1 := le_min4 ha.1 hb.1 hc.1 hd.1
  have h2 := max4_le ha.2 hb.2 hc.2 hd.2
  have h3 := min4_le a b c d
  have h4 := le_max4 a b c d
  unfold hull
  rw [if_neg (by omega)]
  exact nar_mk h1 (by omega) h2
theorem truth_nar {a n A N : Bool} (hA : A = true → a = true) (hN : N = true → n = true ∧ a = false) : Nar (truth a n) (truth A N) := by
  cases A
  · cases N
    · cases a <;> cases n <;> (unfold truth Nar; decide)
    · obtain ⟨rfl, rfl⟩ := hN rfl
      unfold truth Nar; decide
  · obtain rfl := hA rfl
    cases n <;> cases N <;> (unfold truth Nar; decide)
/-- The narrower arguments, the narrower the result. -/
theorem narrows {o p q r s p' q' r' s' : Int} (ho : 1 ≤ o ∧ o ≤ 14) (hp : -2147483648 ≤ p) (hq : q ≤ 2147483647) (hr : -2147483648 ≤ r) (hs : s ≤ 2147483647)
    (h1 : p ≤ p') (h2 : p' ≤ q') (h3 : q' ≤ q) (k1 : r ≤ r') (k2 : r' ≤ s') (k3 : s' ≤ s) : Nar (op o p' q' r' s') (op o p q r s) := by
  have hg : Good (op o p' q' r' s') := (sound (x := p') (y := r') ho (by omega) ⟨Int.le_refl _, h2⟩ (by omega) (by omega) ⟨Int.le_refl _, k2⟩ (by omega)).1
  have hc : o = 1 ∨ o = 2 ∨ o = 3 ∨ o = 4 ∨ o = 5 ∨ o = 6 ∨ o = 7 ∨ o = 8 ∨ o = 9 ∨ o = 10 ∨ o = 11 ∨ o = 12 ∨ o = 13 ∨ o = 14 := by omega
  rcases hc with rfl | rfl | rfl | rfl | rfl | rfl | rfl | rfl | rfl | rfl | rfl | rfl | rfl | rfl
  · exact hull_nar (by unfold min4 max4; omega) (by unfold min4 max4; omega) (by unfold min4 max4; omega) (by unfold min4 max4; omega)
  · exact hull_nar (by unfold min4 max4; omega) (by unfold min4 max4; omega) (by unfold min4 max4; omega) (by unfold min4 max4; omega)
  · exact hull_nar (mul_corners (by omega) (by omega)) (mul_corners (by omega) (by omega)) (mul_corners (by omega) (by omega)) (mul_corners (by omega) (by omega))
  · by_cases h : 1 ≤ r
    · have e : op 4 p q r s = hull (p.tdiv r) (p.tdiv s) (q.tdiv r) (q.tdiv s) := if_pos h
      have e' : op 4 p' q' r' s' = hull (p'.tdiv r') (p'.tdiv s') (q'.tdiv r') (q'.tdiv s') := if_pos (show 1 ≤ r' by omega)
      rw [e, e']
      exact hull_nar (tdiv_corners h (by omega) (by omega)) (tdiv_corners h (by omega) (by omega)) (tdiv_corners h (by omega) (by omega)) (tdiv_corners h (by omega) (by omega))
    · have e : op 4 p q r s = all := if_neg h
      rw [e]; exact nar_all hg
  · by_cases h : 1 ≤ r
    · have e : op 5 p q r s = mk' (if 0 ≤ p then 0 else max p (1 - s)) (if q ≤ 0 then 0 else min q (s - 1)) := if_pos h
      have e' : op 5 p' q' r' s' = mk' (if 0 ≤ p' then 0 else max p' (1 - s')) (if q' ≤ 0 then 0 else min q' (s' - 1)) := if_pos (show 1 ≤ r' by omega)
      rw [e, e']
      exact nar_mk (by split <;> split <;> omega) (by split <;> split <;> omega) (by split <;> split <;> omega)
    · have e : op 5 p q r s = all := if_neg h
      rw [e]; exact nar_all hg
  · have e : ∀ p q r s, op 6 p q r s = if 0 ≤ p ∧ 0 ≤ r then mk' 0 (min q s) else if 0 ≤ p then mk' 0 q else if 0 ≤ r then mk' 0 s else all := fun _ _ _ _ => rfl
    by_cases a : 0 ≤ p
    · by_cases b : 0 ≤ r
      · rw [e, e p q, if_pos (show 0 ≤ p ∧ 0 ≤ r from ⟨a, b⟩), if_pos (show 0 ≤ p' ∧ 0 ≤ r' by omega)]; exact nar_mk (by omega) (by omega) (by omega)
      · by_cases b' : 0 ≤ r'
        · rw [e, e p q, if_neg (show ¬ (0 ≤ p ∧ 0 ≤ r) by omega), if_pos a, if_pos (show 0 ≤ p' ∧ 0 ≤ r' by omega)]; exact nar_mk (by omega) (by omega) (by omega)
        · rw [e, e p q, if_neg (show ¬ (0 ≤ p ∧ 0 ≤ r) by omega), if_pos a, if_neg (show ¬ (0 ≤ p' ∧ 0 ≤ r') by omega), if_pos (show 0 ≤ p' by omega)]; exact nar_mk (by omega) (by omega) (by omega)
    · by_cases b : 0 ≤ r
      · by_cases a' : 0 ≤ p'
        · rw [e, e p q, if_neg (show ¬ (0 ≤ p ∧ 0 ≤ r) by omega), if_neg a, if_pos b, if_pos (show 0 ≤ p' ∧ 0 ≤ r' by omega)]; exact nar_mk (by omega) (by omega) (by omega)
        · rw [e, e p q, if_neg (show ¬ (0 ≤ p ∧ 0 ≤ r) by omega), if_neg a, if_pos b, if_neg (show ¬ (0 ≤ p' ∧ 0 ≤ r') by omega), if_neg a', if_pos (show 0 ≤ r' by omega)]; exact nar_mk (by omega) (by omega) (by omega)
      · rw [e p q, if_neg (show ¬ (0 ≤ p ∧ 0 ≤ r) by omega), if_neg a, if_neg b]; exact nar_all hg
  · by_cases h : 0 ≤ p ∧ 0 ≤ r
    · have e : op 7 p q r s = mk' (max p r) (ones (max q s)) := if_pos h
      have e' : op 7 p' q' r' s' = mk' (max p' r') (ones (max q' s')) := if_pos (show 0 ≤ p' ∧ 0 ≤ r' by omega)
      obtain ⟨_, _, _, hn, _⟩ := ones_spec (show max q' s' ≤ 2147483647 by omega)
      rw [e, e']
      exact nar_mk (by omega) (by omega) (ones_mono (by omega) (by omega))
    · have e : op 7 p q r s = all := if_neg h
      rw [e]; exact nar_all hg
  · by_cases h : 0 ≤ p ∧ 0 ≤ r
    · have e : op 8 p q r s = mk' 0 (ones (max q s)) := if_pos h
      have e' : op 8 p' q' r' s' = mk' 0 (ones (max q' s')) := if_pos (show 0 ≤ p' ∧ 0 ≤ r' by omega)
      have := ones_le (show max q' s' ≤ 2147483647 by omega)
      rw [e, e']
      exact nar_mk (by omega) (by omega) (ones_mono (by omega) (by omega))
    · have e : op 8 p q r s = all := if_neg h
      rw [e]; exact nar_all hg
  · by_cases h : r = s ∧ 0 ≤ r ∧ r ≤ 31 ∧ 0 ≤ p ∧ q * 2 ^ r.toNat ≤ 2147483647
    · have e : op 9 p q r s = mk' (p * 2 ^ r.toNat) (q * 2 ^ r.toNat) := if_pos h
      obtain ⟨g1, g2, g3, g4, g5⟩ := h
      have hr' : r' = r := by omega
      have hs' : s' = r := by omega
      have hk := pow_pos' r.toNat
      have a := mul_le2 g4 h1 hk (d := p' * 2 ^ r.toNat) (Int.le_refl _)
      have b := mul_le2 (a := q') (b := q) (by omega) h3 hk g5
      have c := mul_le2 (a := p') (b := q') (by omega) h2 hk b.2.2
      have e' : op 9 p' q' r' s' = mk' (p' * 2 ^ r'.toNat) (q' * 2 ^ r'.toNat) := if_pos (show r' = s' ∧ 0 ≤ r' ∧ r' ≤ 31 ∧ 0 ≤ p' ∧ q' * 2 ^ r'.toNat ≤ 2147483647 from ⟨by omega, by omega, by omega, by omega, by rw [hr']; exact b.2.2⟩)
      rw [e, e', hr']
      exact nar_mk a.2.1 c.2.1 b.2.1
    · have e : op 9 p q r s = all := if_neg h
      rw [e]; exact nar_all hg
  · by_cases h : 0 ≤ r ∧ s ≤ 31
    · have e : op 10 p q r s = hull (p / 2 ^ r.toNat) (p / 2 ^ s.toNat) (q / 2 ^ r.toNat) (q / 2 ^ s.toNat) := if_pos h
      have e' : op 10 p' q' r' s' = hull (p' / 2 ^ r'.toNat) (p' / 2 ^ s'.toNat) (q' / 2 ^ r'.toNat) (q' / 2 ^ s'.toNat) := if_pos (show 0 ≤ r' ∧ s' ≤ 31 by omega)
      rw [e, e']
      exact hull_nar (shr_corners h.1 (by omega) (by omega)) (shr_corners h.1 (by omega) (by omega)) (shr_corners h.1 (by omega) (by omega)) (shr_corners h.1 (by omega) (by omega))
    · have e : op 10 p q r s = mk' (min p 0) (max q 0) := if_neg h
      rw [e]
      have hz : ∀ (x : Int) (k : Nat), p ≤ x → x ≤ q → min p 0 ≤ x / 2 ^ k ∧ x / 2 ^ k ≤ max q 0 := fun x k a b => by
        have := shr_any x k
        by_cases c : 0 ≤ x
        · have := this.1 c; omega
        · have := this.2 (by omega); omega
      by_cases g : 0 ≤ r' ∧ s' ≤ 31
      · have e' : op 10 p' q' r' s' = hull (p' / 2 ^ r'.toNat) (p' / 2 ^ s'.toNat) (q' / 2 ^ r'.toNat) (q' / 2 ^ s'.toNat) := if_pos g
        rw [e']
        exact hull_in (by omega) (by omega) (hz _ _ (by omega) (by omega)) (hz _ _ (by omega) (by omega)) (hz _ _ (by omega) (by omega)) (hz _ _ (by omega) (by omega))
      · have e' : op 10 p' q' r' s' = mk' (min p' 0) (max q' 0) := if_neg g
        rw [e']
        exact nar_mk (by omega) (by omega) (by omega)
  · exact truth_nar (A := decide (q < r)) (N := decide (s ≤ p)) (fun h => by simp at h ⊢; omega) (fun h => by simp at h ⊢; omega)
  · exact truth_nar (A := decide (q ≤ r)) (N := decide (s < p)) (fun h => by simp at h ⊢; omega) (fun h => by simp at h ⊢; omega)
  · exact truth_nar (A := decide (p = q) && decide (r = s) && decide (p = r)) (N := decide (q < r) || decide (s < p)) (fun h => by simp at h ⊢; omega) (fun h => by simp at h ⊢; omega)
  · exact truth_nar (A := decide (q < r) || decide (s < p)) (N := decide (p = q) && decide (r = s) && decide (p = r)) (fun h => by simp at h ⊢; omega) (fun h => by simp at h ⊢; omega)

/-! ### The lattice -/
def Ok (z : Iv) : Prop := z = non ∨ Good z
theorem good_ne {z : Iv} (h : Good z) : z ≠ non := fun e => by subst e; have := h.2.1; simp [non] at this
theorem form_good {z : Iv} (h : Good z) : form z = z := form_of (.inr ⟨h.1, h.2.1, h.2.2⟩)
theorem form_Ok {z : Iv} (h : Ok z) : form z = z := form_of (h.imp id fun h => ⟨h.1, h.2.1, h.2.2⟩)
theorem ok_Ok {z : Iv} (h : Ok z) : ok z = true := ok_of (h.imp id fun h => ⟨h.1, h.2.1, h.2.2⟩)
theorem has_cov {z : Iv} {v : Int} (h : Cov z v) : has z v = true := by
  unfold has; rw [form_good h.1]; simp [good_ne h.1, h.2.1, h.2.2]
theorem meet_good {a b : Iv} (ha : Good a) (hb : Good b) : meet a b = mk' (max a.lo b.lo) (min a.hi b.hi) := by
  unfold meet; rw [form_good ha, form_good hb, if_neg (fun h => h.elim (good_ne ha) (good_ne hb))]
theorem join_good {a b : Iv} (ha : Good a) (hb : Good b) : join a b = ⟨min a.lo b.lo, max a.hi b.hi⟩ := by
  unfold join; rw [form_good ha, form_good hb, if_neg (good_ne ha), if_neg (good_ne hb), mk_le (by have := ha.2.1; have := hb.2.1; omega)]
theorem meet_non_left (b : Iv) : meet non b = non := by unfold meet; rw [if_pos (.inl (form_of (.inl rfl)))]
theorem meet_non_right (a : Iv) : meet a non = non := by unfold meet; rw [if_pos (.inr (form_of (.inl rfl)))]
theorem form_non : form non = non := form_of (.inl rfl)
theorem join_non_left {b : Iv} (h : Ok b) : join non b = b := by unfold join; rw [form_non, if_pos rfl, form_Ok h]
theorem join_non_right {a : Iv} (h : Ok a) : join a non = a := by
  unfold join; rw [form_non, form_Ok h]
  by_cases e : a = non
  · rw [if_pos e, e]
  · rw [if_neg e, if_pos rfl]
theorem iv_ext {a b : Iv} (h1 : a.lo = b.lo) (h2 : a.hi = b.hi) : a = b := by cases a; cases b; simp at h1 h2; rw [h1, h2]
theorem leq_non (b : Iv) : leq non b = true := by unfold leq; rw [meet_non_left, form_non]; simp
theorem leq_good_non {a : Iv} (ha : Good a) : leq a non = false := by
  unfold leq; rw [meet_non_right, form_good ha]; simpa using fun h => good_ne ha h.symm
theorem leq_good {a b : Iv} (ha : Good a) (hb : Good b) : leq a b = decide (b.lo ≤ a.lo ∧ a.hi ≤ b.hi) := by
  unfold leq
  rw [meet_good ha hb, form_good ha, Bool.eq_iff_iff]
  simp only [decide_eq_true_eq]
  constructor
  · intro h
    have h1 := congrArg Iv.lo h
    have h2 := congrArg Iv.hi h
    unfold mk' at h1 h2
    have := ha.2.1
    split at h1
    · rw [if_pos (by assumption)] at h2; simp [non] at h1 h2; omega
    · rw [if_neg (by assumption)] at h2; simp at h1 h2; omega
  · intro h
    rw [mk_le (by have := ha.2.1; omega)]
    exact iv_ext (by show max a.lo b.lo = a.lo; omega) (by show min a.hi b.hi = a.hi; omega)
theorem leq_nar {a b : Iv} (ha : Good a) (hb : Good b) (h : Nar a b) : leq a b = true := by rw [leq_good ha hb]; exact decide_eq_true h
theorem meet_Ok {a b : Iv} (ha : Ok a) (hb : Ok b) : Ok (meet a b) := by
  rcases ha with rfl | ha
  · rw [meet_non_left]; exact .inl rfl
  rcases hb with rfl | hb
  · rw [meet_non_right]; exact .inl rfl
  rw [meet_good ha hb]
  unfold mk'
  split
  · exact .inl rfl
  · refine .inr ⟨?_, ?_, ?_⟩
    · show _ ≤ max a.lo b.lo; have := ha.1; omega
    · show max a.lo b.lo ≤ min a.hi b.hi; omega
    · show min a.hi b.hi ≤ _; have := ha.2.2; omega
theorem good_join {a b : Iv} (ha : Good a) (hb : Good b) : Good ⟨min a.lo b.lo, max a.hi b.hi⟩ := by
  refine ⟨?_, ?_, ?_⟩
  · show _ ≤ min a.lo b.lo; have := ha.1; have := hb.1; omega
  · show min a.lo b.lo ≤ max a.hi b.hi; have := ha.2.1; omega
  · show max a.hi b.hi ≤ _; have := ha.2.2; have := hb.2.2; omega
theorem join_Ok {a b : Iv} (ha : Ok a) (hb : Ok b) : Ok (join a b) := by
  rcases ha with rfl | ha
  · rw [join_non_left hb]; exact hb
  rcases hb with rfl | hb
  · rw [join_non_right (.inr ha)]; exact .inr ha
  rw [join_good ha hb]; exact .inr (good_join ha hb)
theorem leq_refl {a : Iv} (h : Ok a) : leq a a = true := by
  rcases h with rfl | h
  · exact leq_non _
  · exact leq_nar h h ⟨Int.le_refl _, Int.le_refl _⟩
theorem leq_all {a : Iv} (h : Ok a) : leq a all = true := by
  rcases h with rfl | h
  · exact leq_non _
  · exact leq_nar h good_all (nar_all h)
theorem leq_join {a b : Iv} (ha : Ok a) (hb : Ok b) : leq a (join a b) = true ∧ leq b (join a b) = true := by
  rcases ha with rfl | ha
  · rw [join_non_left hb]; exact ⟨leq_non _, leq_refl hb⟩
  rcases hb with rfl | hb
  · rw [join_non_right (.inr ha)]; exact ⟨leq_refl (.inr ha), leq_non _⟩
  rw [join_good ha hb]
  exact ⟨leq_nar ha (good_join ha hb) ⟨by show min a.lo b.lo ≤ a.lo; omega, by show a.hi ≤ max a.hi b.hi; omega⟩, leq_nar hb (good_join ha hb) ⟨by show min a.lo b.lo ≤ b.lo; omega, by show b.hi ≤ max a.hi b.hi; omega⟩⟩
theorem meet_leq {a b : Iv} (ha : Ok a) (hb : Ok b) : leq (meet a b) a = true ∧ leq (meet a b) b = true := by
  rcases ha with rfl | ha
  · rw [meet_non_left]; exact ⟨leq_non _, leq_non _⟩
  rcases hb with rfl | hb
  · rw [meet_non_right]; exact ⟨leq_non _, leq_non _⟩
  have hm := meet_Ok (.inr ha) (.inr hb)
  rw [meet_good ha hb] at *
  unfold mk' at *
  split
  · exact ⟨leq_non _, leq_non _⟩
  · rename_i h
    rw [if_neg h] at hm
    have hg : Good ⟨max a.lo b.lo, min a.hi b.hi⟩ := hm.resolve_left fun e => by
      have h1 := congrArg Iv.lo e
      have h2 := congrArg Iv.hi e
      simp [non] at h1 h2
      omega
    exact ⟨leq_nar hg ha ⟨by show a.lo ≤ max a.lo b.lo; omega, by show min a.hi b.hi ≤ a.hi; omega⟩, leq_nar hg hb ⟨by show b.lo ≤ max a.lo b.lo; omega, by show min a.hi b.hi ≤ b.hi; omega⟩⟩
/-- Join is the least upper bound. -/
theorem join_least {a b c : Iv} (ha : Ok a) (hb : Ok b) (hc : Ok c) (h : leq a c = true) : leq b c = leq (join a b) c := by
  rcases ha with rfl | ha
  · rw [join_non_left hb]
  rcases hb with rfl | hb
  · rw [join_non_right (.inr ha), leq_non, h]
  rcases hc with rfl | hc
  · rw [leq_good_non ha] at h; cases h
  rw [join_good ha hb, leq_good hb hc, leq_good (good_join ha hb) hc]
  rw [leq_good ha hc] at h
  simp only [decide_eq_true_eq] at h
  rw [Bool.eq_iff_iff]; simp only [decide_eq_true_eq]
  omega
/-- Meet is the greatest lower bound. -/
theorem meet_greatest {a b c : Iv} (ha : Ok a) (hb : Ok b) (hc : Ok c) (h : leq c a = true) : leq c b = leq c (meet a b) := by
  rcases hc with rfl | hc
  · rw [leq_non, leq_non]
  rcases ha with rfl | ha
  · rw [leq_good_non hc] at h; cases h
  rcases hb with rfl | hb
  · rw [meet_non_right]
  rw [leq_good hc ha] at h
  simp only [decide_eq_true_eq] at h
  have hm := meet_Ok (.inr ha) (.inr hb)
  rw [meet_good ha hb] at *
  have := hc.2.1
  unfold mk' at *
  split
  · rw [leq_good_non hc, leq_good hc hb]
    simp only [decide_eq_false_iff_not]
    omega
  · rename_i g
    rw [if_neg g] at hm
    have hg : Good ⟨max a.lo b.lo, min a.hi b.hi⟩ := hm.resolve_left fun e => by
      have h1 := congrArg Iv.lo e
      have h2 := congrArg Iv.hi e
      simp [non] at h1 h2
      omega
    rw [leq_good hc hb, leq_good hc hg, Bool.eq_iff_iff]
    simp only [decide_eq_true_eq]
    omega
theorem join_comm {a b : Iv} (ha : Ok a) (hb : Ok b) : join a b = join b a := by
  rcases ha with rfl | ha
  · rw [join_non_left hb, join_non_right hb]
  rcases hb with rfl | hb
  · rw [join_non_right (.inr ha), join_non_left (.inr ha)]
  rw [join_good ha hb, join_good hb ha, Int.min_comm, Int.max_comm]
theorem meet_comm {a b : Iv} (ha : Ok a) (hb : Ok b) : meet a b = meet b a := by
  rcases ha with rfl | ha
  · rw [meet_non_left, meet_non_right]
  rcases hb with rfl | hb
  · rw [meet_non_right, meet_non_left]
  rw [meet_good ha hb, meet_good hb ha, Int.max_comm, Int.min_comm]
theorem leq_antisymm {a b : Iv} (ha : Ok a) (hb : Ok b) (h1 : leq a b = true) (h2 : leq b a = true) : a = b := by
  rcases ha with rfl | ha
  · rcases hb with rfl | hb
    · rfl
    · rw [leq_good_non hb] at h2; cases h2
  rcases hb with rfl | hb
  · rw [leq_good_non ha] at h1; cases h1
  rw [leq_good ha hb] at h1
  rw [leq_good hb ha] at h2
  simp only [decide_eq_true_eq] at h1 h2
  exact iv_ext (by omega) (by omega)
end Iv
end Go.Proofs.Ytdajgopgaklipaa

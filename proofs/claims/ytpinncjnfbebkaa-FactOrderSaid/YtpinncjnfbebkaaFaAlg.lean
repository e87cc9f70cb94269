/- Layer 11 in plain words: sums over blocks, what Of leaves, maps of maps, and the mathematics of the five laws. No condition. -/
import Derived.Test.YtpinncjnfbebkaaFaMapM
import Derived.Test.YtpinncjnfbebkaaFaAddM
namespace Go.Proofs.Ytpinncjnfbebkaa
set_option linter.unusedVariables false
set_option linter.unusedSimpArgs false
namespace Fa
variable {l l' f : Tms}
/-- The coefficients of block o, added up. -/
def cf : Tms → Int → Int
  | [], _ => 0
  | t :: r, o => (if t.1 = o then t.2 else 0) + cf r o
/-- The terms' sum where block b counts c b. -/
def val : Tms → (Int → Int) → Int
  | [], _ => 0
  | t :: r, c => t.2 * c t.1 + val r c
theorem cf_app (l l' : Tms) (o : Int) : cf (l ++ l') o = cf l o + cf l' o := by
  induction l with
  | nil => simp [cf]
  | cons t r ih => simp only [List.cons_append, cf, ih]; omega
theorem val_app (l l' : Tms) (c : Int → Int) : val (l ++ l') c = val l c + val l' c := by
  induction l with
  | nil => simp [val]
  | cons t r ih => simp only [List.cons_append, val, ih]; omega
theorem sumTo_take (l : Tms) (o : Nat) : ∀ k, sumTo l o k = cf (l.take k) o
  | 0 => by simp [sumTo, cf]
  | k + 1 => by
    simp only [sumTo, sumTo_take l o k]
    by_cases hk : k < l.length
    · rw [List.take_add_one, cf_app]
      simp [List.getElem?_eq_getElem hk, List.getD, cf]
    · rw [List.take_of_length_le (by omega), List.take_of_length_le (by omega)]
      have : l.getD k (0, 0) = (0, 0) := by simp [List.getD, List.getElem?_eq_none (show l.length ≤ k by omega)]
      rw [this]
      simp
theorem sumAt_cf (l : Tms) (o : Nat) : sumAt l o = cf l o := by
  unfold sumAt
  rw [sumTo_take, List.take_length]
/-- What is left of the blocks below k depends on the sums alone. -/
theorem norm_congr : ∀ k, (∀ o : Nat, o < k → cf l o = cf l' o) → normTo l k = normTo l' k
  | 0, _ => rfl
  | k + 1, h => by
    simp only [normTo]
    rw [norm_congr k (fun o ho => h o (by omega)), sumAt_cf, sumAt_cf, h k (by omega)]
theorem right_congr : ∀ k, (∀ o : Nat, o < k → cf l o = cf l' o) → rightTo l k = rightTo l' k
  | 0, _ => rfl
  | k + 1, h => by
    simp only [rightTo]
    rw [right_congr k (fun o ho => h o (by omega)), sumAt_cf, sumAt_cf, h k (by omega)]
/-- The sum of c o times g o over the blocks below k. -/
def bsum (g c : Int → Int) : Nat → Int
  | 0 => 0
  | k + 1 => bsum g c k + g k * c k
theorem val_norm (l : Tms) (c : Int → Int) : ∀ k, val (normTo l k) c = bsum (cf l) c k
  | 0 => rfl
  | k + 1 => by
    simp only [normTo, bsum]
    rw [val_app, val_norm l c k, sumAt_cf]
    split
    · rename_i h
      rw [h]; simp [val]
    · simp [val]
theorem bsum_add (g g' c : Int → Int) : ∀ k, bsum (fun o => g o + g' o) c k = bsum g c k + bsum g' c k
  | 0 => rfl
  | k + 1 => by
    simp only [bsum]
    rw [bsum_add g g' c k, Int.add_mul]
    omega
theorem bsum_one (x y : Int) (c : Int → Int) : ∀ k : Nat, 0 ≤ x → bsum (fun o => if x = o then y else 0) c k = if x < k then y * c x else 0
  | 0, h => by rw [if_neg (by omega)]; rfl
  | k + 1, h => by
    simp only [bsum]
    rw [bsum_one x y c k h]
    by_cases e : x = k
    · subst e
      rw [if_neg (by omega), if_pos rfl, if_pos (by omega)]
      simp
    · rw [if_neg (c := x = (k : Int)) e]
      by_cases h2 : x < k
      · rw [if_pos h2, if_pos (by omega)]; simp
      · rw [if_neg h2, if_neg (by omega)]; simp
theorem bsum_zero (c : Int → Int) : ∀ k, bsum (fun _ => 0) c k = 0
  | 0 => rfl
  | k + 1 => by simp only [bsum]; rw [bsum_zero c k]; simp
theorem bsum_cf (c : Int → Int) (k : Nat) : ∀ (l : Tms), (∀ t ∈ l, 0 ≤ t.1 ∧ t.1 < k) → bsum (cf l) c k = val l c
  | [], _ => by
    show bsum (fun _ => 0) c k = 0
    exact bsum_zero c k
  | t :: r, h => by
    have ih := bsum_cf c k r (fun x hx => h x (by simp [hx]))
    have ht := h t (by simp)
    show bsum (fun o => (if t.1 = o then t.2 else 0) + cf r o) c k = _
    rw [bsum_add (fun o => if t.1 = o then t.2 else 0) (cf r) c k, bsum_one _ _ _ _ ht.1, if_pos ht.2, ih]
    rfl
/-- Adding up keeps the sum. -/
theorem norm_val (c : Int → Int) (h : ∀ t ∈ l, 0 ≤ t.1 ∧ t.1 < 256) : val (normTo l 256) c = val l c := by
  rw [val_norm, bsum_cf c 256 l h]
/-- How often o stands in a list. -/
def cnt : List Int → Int → Int
  | [], _ => 0
  | x :: r, o => (if x = o then 1 else 0) + cnt r o
theorem cf_to1 (ts : List (List Int)) (t : Int × Int) (o : Int) : cf (to1 ts t) o = t.2 * cnt (ts.getD t.1.toNat []) o := by
  unfold to1
  induction ts.getD t.1.toNat [] with
  | nil => simp [cf, cnt]
  | cons x r ih =>
    simp only [List.map_cons, cf, cnt, ih]
    rw [Int.mul_add]
    split <;> simp
theorem cf_all (ts : List (List Int)) (o : Int) : ∀ f : Tms, cf (toAll ts f) o = val f (fun b => cnt (ts.getD b.toNat []) o)
  | [] => rfl
  | t :: r => by
    show cf (to1 ts t ++ toAll ts r) o = _
    rw [cf_app, cf_to1, cf_all ts o r]
    rfl
/-- The sum of c over a list. -/
def lsum (c : Int → Int) : List Int → Int
  | [] => 0
  | x :: r => c x + lsum c r
theorem val_to1 (ts : List (List Int)) (t : Int × Int) (c : Int → Int) : val (to1 ts t) c = t.2 * lsum c (ts.getD t.1.toNat []) := by
  unfold to1
  induction ts.getD t.1.toNat [] with
  | nil => simp [val, lsum]
  | cons x r ih =>
    simp only [List.map_cons, val, lsum, ih]
    rw [Int.mul_add]
theorem val_all (ts : List (List Int)) (c : Int → Int) : ∀ f : Tms, val (toAll ts f) c = val f (fun b => lsum c (ts.getD b.toNat []))
  | [] => rfl
  | t :: r => by
    show val (to1 ts t ++ toAll ts r) c = _
    rw [val_app, val_to1, val_all ts c r]
    rfl
theorem val_congr {c c' : Int → Int} : ∀ {f : Tms}, (∀ t ∈ f, c t.1 = c' t.1) → val f c = val f c'
  | [], _ => rfl
  | t :: r, h => by
    simp only [val]
    rw [h t (by simp), val_congr (fun x hx => h x (by simp [hx]))]
/-- Sum as a sum over the terms. -/
theorem sm_val (l : Tms) (cs : List Int) (hl : ∀ t ∈ l, 0 ≤ t.1) : ∀ k, k ≤ l.length → sm l cs k = val (l.take k) (fun b => cs.getD b.toNat 0)
  | 0, _ => by simp [sm, val]
  | k + 1, hk => by
    have hk' : k < l.length := by omega
    have hx : l.getD k (0, 0) = l[k] := by simp [List.getD, List.getElem?_eq_getElem hk']
    have hm := hl l[k] (List.getElem_mem hk')
    simp only [sm]
    rw [sm_val l cs hl k (by omega), List.take_add_one, val_app, hx]
    simp only [List.getElem?_eq_getElem hk', Option.toList_some, val]
    by_cases hc : l[k].1 < cs.length
    · rw [if_pos hc]; omega
    · rw [if_neg hc]
      have : cs.getD l[k].1.toNat 0 = 0 := by simp [List.getD, List.getElem?_eq_none (show cs.length ≤ l[k].1.toNat by omega)]
      rw [this]; simp
theorem sm_all (l : Tms) (cs : List Int) (hl : ∀ t ∈ l, 0 ≤ t.1) : sm l cs l.length = val l (fun b => cs.getD b.toNat 0) := by
  rw [sm_val l cs hl _ (Nat.le_refl _), List.take_length]
/-! ### What is left is a valid fact -/
theorem norm_mem {t : Int × Int} : ∀ {k : Nat}, t ∈ normTo l k → 0 ≤ t.1 ∧ t.1 < k ∧ t.2 = cf l t.1 ∧ t.2 ≠ 0
  | 0, h => by simp [normTo] at h
  | k + 1, h => by
    simp only [normTo, List.mem_append] at h
    rcases h with h | h
    · obtain ⟨h1, h2, h3, h4⟩ := norm_mem h
      exact ⟨h1, by omega, h3, h4⟩
    · split at h
      · simp at h
      · rename_i hne
        simp only [List.mem_singleton] at h
        subst h
        exact ⟨by omega, by simp; omega, sumAt_cf l k, hne⟩
theorem norm_pair : ∀ k, (normTo l k).Pairwise (fun a b => a.1 < b.1)
  | 0 => List.Pairwise.nil
  | k + 1 => by
    simp only [normTo]
    rw [List.pairwise_append]
    refine ⟨norm_pair k, by split <;> simp, fun a ha b hb => ?_⟩
    have h1 := norm_mem ha
    split at hb
    · simp at hb
    · simp only [List.mem_singleton] at hb
      subst hb
      exact h1.2.1
/-- A list of ascending blocks with good coefficients is valid. -/
theorem chk_pair {most : Int} (hlen : l.length ≤ 64) (hm : inC most = true) (hp : l.Pairwise (fun a b => a.1 < b.1)) (ht : ∀ t ∈ l, (0 ≤ t.1 ∧ t.1 ≤ 255) ∧ t.2 ≠ 0 ∧ inC t.2 = true) : chk l most = 0 := by
  refine chk_ok (by omega) hm fun i hi => ?_
  have hx : l.getD i (0, 0) = l[i] := by simp [List.getD, List.getElem?_eq_getElem hi]
  have h := ht l[i] (List.getElem_mem hi)
  unfold bad
  rw [hx]
  have h4 : (decide (0 < i) && decide (l[i].1 ≤ (l.getD (i - 1) (0, 0)).1)) = false := by
    by_cases h0 : 0 < i
    · have hj : i - 1 < l.length := by omega
      have hy : l.getD (i - 1) (0, 0) = l[i - 1] := by simp [List.getD, List.getElem?_eq_getElem hj]
      rw [hy]
      have := (List.pairwise_iff_getElem.1 hp) (i - 1) i hj hi (by omega)
      simp
      intro _
      omega
    · simp [h0]
  rw [h4, h.2.2]
  have e1 : ¬ l[i].1 < 0 := by omega
  have e2 : ¬ 255 < l[i].1 := by omega
  simp [h.2.1]
  omega
/-- The other way round. -/
theorem pair_chk {most : Int} (h : chk l most = 0) : l.Pairwise (fun a b => a.1 < b.1) := by
  obtain ⟨_, _, hb⟩ := ok_of h
  have hs : ∀ i (hi : i + 1 < l.length), l[i].1 < l[i + 1].1 := by
    intro i hi
    have := hb (i + 1) hi
    unfold bad at this
    simp only [Bool.or_eq_false_iff, Bool.and_eq_false_iff, decide_eq_false_iff_not] at this
    have h5 := this.2
    have hx : l.getD (i + 1) (0, 0) = l[i + 1] := by simp [List.getD, List.getElem?_eq_getElem hi]
    have hy : l.getD (i + 1 - 1) (0, 0) = l[i] := by simp [List.getD, List.getElem?_eq_getElem (show i < l.length by omega)]
    rw [hx, hy] at h5
    omega
  rw [List.pairwise_iff_getElem]
  intro i j hi hj hij
  obtain ⟨d, rfl⟩ : ∃ d, j = i + 1 + d := ⟨j - (i + 1), by omega⟩
  clear hij
  induction d with
  | zero => exact hs i hj
  | succ d ih =>
    have := ih (by omega)
    have h2 := hs (i + 1 + d) hj
    have e : i + 1 + (d + 1) = i + 1 + d + 1 := by omega
    simp only [e]
    omega
theorem mem_chk {most : Int} (h : chk l most = 0) {t : Int × Int} (ht : t ∈ l) : (0 ≤ t.1 ∧ t.1 ≤ 255) ∧ t.2 ≠ 0 ∧ (-1048576 ≤ t.2 ∧ t.2 ≤ 1048576) := by
  obtain ⟨i, hi, rfl⟩ := List.getElem_of_mem ht
  have hx : l.getD i (0, 0) = l[i] := by simp [List.getD, List.getElem?_eq_getElem hi]
  have h1 := ok_term h hi
  have hb := (ok_of h).2.2 i hi
  rw [hx] at h1
  unfold bad at hb
  rw [hx] at hb
  simp only [Bool.or_eq_false_iff, decide_eq_false_iff_not] at hb
  exact ⟨h1.1, hb.1.1.2, h1.2⟩
theorem cf_bds {B : Int} (hB : 0 ≤ B) (o : Int) : ∀ (l : Tms), (∀ t ∈ l, -B ≤ t.2 ∧ t.2 ≤ B) → -(B * l.length) ≤ cf l o ∧ cf l o ≤ B * l.length
  | [], _ => by simp [cf]
  | t :: r, h => by
    have ih := cf_bds hB o r (fun x hx => h x (by simp [hx]))
    have ht := h t (by simp)
    have e : B * ((t :: r).length : Int) = B * r.length + B := by simp [Int.mul_add]
    simp only [cf]
    rw [e]
    split <;> omega
theorem cf_out (o : Int) : ∀ (l : Tms), (∀ t ∈ l, t.1 ≠ o) → cf l o = 0
  | [], _ => rfl
  | t :: r, h => by
    simp only [cf]
    rw [if_neg (h t (by simp)), cf_out o r (fun x hx => h x (by simp [hx]))]
    rfl
theorem norm_stop {N : Nat} (h : ∀ t ∈ l, t.1 < N) : ∀ d, normTo l (N + d) = normTo l N
  | 0 => rfl
  | d + 1 => by
    have e : normTo l (N + (d + 1)) = normTo l (N + d) ++ if sumAt l (N + d) = 0 then [] else [(((N + d : Nat) : Int), sumAt l (N + d))] := rfl
    rw [e, norm_stop h d, sumAt_cf, cf_out _ l (fun t ht => by have := h t ht; omega), if_pos rfl, List.append_nil]
theorem right_all : ∀ k, (∀ o : Nat, o < k → inC (cf l o) = true) → rightTo l k = true
  | 0, _ => rfl
  | k + 1, h => by
    simp only [rightTo]
    rw [right_all k (fun o ho => h o (by omega)), sumAt_cf, h k (by omega)]
    simp
/-- Of terms of few low blocks and small coefficients. -/
theorem of_small {most B : Int} {N : Nat} (h1 : l.length ≤ 1024) (hm : inC most = true) (hN : N ≤ 64) (ht : ∀ t ∈ l, (0 ≤ t.1 ∧ t.1 < N) ∧ (-B ≤ t.2 ∧ t.2 ≤ B)) (hB : 0 ≤ B) (hB2 : B * l.length ≤ 1048576) :
    ofR l most = (normTo l 256, most, 0) := by
  have hB1 : B ≤ 1048576 ∨ l = [] := by
    cases l with
    | nil => exact .inr rfl
    | cons t r =>
      left
      have e : B * ((t :: r).length : Int) = B * r.length + B := by simp [Int.mul_add]
      rw [e] at hB2
      have : 0 ≤ B * (r.length : Int) := Int.mul_nonneg hB (by omega)
      omega
  have htb : ∀ i, i < l.length → tbad (l.getD i (0, 0)) = false := by
    intro i hi
    have hx : l.getD i (0, 0) = l[i] := by simp [List.getD, List.getElem?_eq_getElem hi]
    have h := ht l[i] (List.getElem_mem hi)
    rw [hx]
    unfold tbad
    have h3 : inC l[i].2 = true := by
      rw [inC_iff]
      rcases hB1 with hb | hb
      · omega
      · subst hb; simp at hi
    rw [h3]
    simp
    omega
  rw [of_good (by omega) hm htb]
  have hlen : (normTo l 256).length ≤ 64 := by
    have e : 256 = N + (256 - N) := by omega
    rw [e, norm_stop (fun t h => (ht t h).1.2)]
    have := norm_len l N
    omega
  have hr : rightTo l 256 = true := right_all 256 fun o _ => by
    have := cf_bds hB o l (fun t h => (ht t h).2)
    rw [inC_iff]
    omega
  rw [if_neg (by omega), if_neg (by simp [hr])]
/-- What Of answers is valid. -/
theorem of_chk {most : Int} {r : Tms} {m : Int} (h : ofR l most = (r, m, 0)) : chk r m = 0 := by
  unfold ofR at h
  split at h
  · simp at h
  · split at h
    · simp at h
    · rename_i hm
      split at h
      · simp at h
      · split at h
        · simp at h
        · rename_i h64
          split at h
          · simp at h
          · rename_i hr
            simp only [Prod.mk.injEq] at h
            obtain ⟨rfl, rfl, _⟩ := h
            have hr' : rightTo l 256 = true := by simpa using hr
            have hall : ∀ k, rightTo l k = true → ∀ o : Nat, o < k → cf l o = 0 ∨ inC (cf l o) = true := by
              intro k
              induction k with
              | zero => intro _ o ho; omega
              | succ k ih =>
                intro hk o ho
                simp only [rightTo, Bool.and_eq_true, Bool.or_eq_true, decide_eq_true_eq, sumAt_cf] at hk
                by_cases e : o = k
                · subst e; exact hk.2
                · exact ih hk.1 o (by omega)
            refine chk_pair (by omega) (by simpa using hm) (norm_pair 256) fun t ht => ?_
            obtain ⟨q0, q1, q2, q3⟩ := norm_mem ht
            refine ⟨by omega, q3, ?_⟩
            obtain ⟨o, ho⟩ := Int.eq_ofNat_of_zero_le q0
            rcases hall 256 hr' o (by omega) with e | e
            · rw [← ho, ← q2] at e; exact absurd e q3
            · rw [q2, ho]; exact e
/-- Of of a valid fact is the fact. -/
theorem cf_pair {t : Int × Int} : ∀ {l : Tms}, l.Pairwise (fun a b => a.1 < b.1) → t ∈ l → cf l t.1 = t.2
  | [], _, h => by simp at h
  | x :: r, hp, h => by
    rw [List.pairwise_cons] at hp
    simp only [cf]
    rcases List.mem_cons.1 h with rfl | h
    · rw [if_pos rfl, cf_out _ r (fun y hy => by have := hp.1 y hy; omega)]
      omega
    · rw [if_neg (by have := hp.1 t h; omega), cf_pair hp.2 h]
      omega
/-- The coefficient sums of what is left. -/
theorem cf_norm (o : Nat) : ∀ k : Nat, cf (normTo l k) o = if o < k then cf l o else 0
  | 0 => by simp [normTo, cf]
  | k + 1 => by
    have hq : ∀ x : Int, cf (if x = 0 then [] else [((k : Int), x)]) o = if (k : Int) = o then x else 0 := by
      intro x
      by_cases hx : x = 0
      · rw [if_pos hx, hx]; simp [cf]
      · rw [if_neg hx]; simp [cf]
    simp only [normTo]
    rw [cf_app, cf_norm o k, sumAt_cf, hq]
    by_cases e : o = k
    · subst e
      rw [if_neg (by omega), if_pos rfl, if_pos (by omega)]
      omega
    · by_cases h : o < k
      · rw [if_pos h, if_pos (show o < k + 1 by omega), if_neg (by omega)]
        omega
      · rw [if_neg h, if_neg (show ¬ o < k + 1 by omega), if_neg (by omega)]
        rfl
theorem norm_norm (l : Tms) : normTo (normTo l 256) 256 = normTo l 256 := norm_congr 256 fun o ho => by rw [cf_norm, if_pos ho]
variable {l l' f g : Tms} {ts : List (List Int)} {m most B : Int} {N r n : Nat}
theorem isMap_of (h1 : ts.length ≤ 256) (h2 : ∀ q ∈ ts, q.length ≤ 256 ∧ ∀ x ∈ q, 0 ≤ x ∧ x ≤ 255) : isMapB ts = true := by
  unfold isMapB
  rw [Bool.and_eq_true, List.all_eq_true]
  refine ⟨by simpa using h1, fun q hq => ?_⟩
  obtain ⟨h3, h4⟩ := h2 q hq
  unfold rowOk
  rw [Bool.and_eq_true, List.all_eq_true]
  refine ⟨by simpa using h3, fun x hx => ?_⟩
  have := h4 x hx
  unfold eOk
  simp
  omega
theorem row_mem (i : Nat) (h : ∀ q ∈ ts, q.length ≤ r ∧ ∀ x ∈ q, 0 ≤ x ∧ x < N) : (ts.getD i []).length ≤ r ∧ ∀ x ∈ ts.getD i [], 0 ≤ x ∧ x < N := by
  by_cases hi : i < ts.length
  · have e : ts.getD i [] = ts[i] := by simp [List.getD, List.getElem?_eq_getElem hi]
    rw [e]
    exact h _ (List.getElem_mem hi)
  · have e : ts.getD i [] = [] := by simp [List.getD, List.getElem?_eq_none (show ts.length ≤ i by omega)]
    rw [e]
    exact ⟨by simp, fun x hx => by simp at hx⟩
theorem all_mem {t : Int × Int} (h : ∀ q ∈ ts, q.length ≤ r ∧ ∀ x ∈ q, 0 ≤ x ∧ x < N) (hf : ∀ t ∈ f, -B ≤ t.2 ∧ t.2 ≤ B) (ht : t ∈ toAll ts f) : (0 ≤ t.1 ∧ t.1 < N) ∧ (-B ≤ t.2 ∧ t.2 ≤ B) := by
  unfold toAll at ht
  obtain ⟨s, hs, ht⟩ := List.mem_flatMap.1 ht
  unfold to1 at ht
  obtain ⟨x, hx, rfl⟩ := List.mem_map.1 ht
  exact ⟨(row_mem _ h).2 x hx, hf s hs⟩
theorem all_len2 (h : ∀ q ∈ ts, q.length ≤ r ∧ ∀ x ∈ q, 0 ≤ x ∧ x < N) : ∀ f : Tms, (toAll ts f).length ≤ r * f.length
  | [] => by simp [toAll]
  | t :: s => by
    have ih := all_len2 h s
    have e : toAll ts (t :: s) = to1 ts t ++ toAll ts s := rfl
    rw [e, List.length_append]
    have h1 := (row_mem t.1.toNat h).1
    have h2 : (to1 ts t).length = (ts.getD t.1.toNat []).length := by simp [to1]
    rw [List.length_cons, Nat.mul_add]
    omega
/-- Map of a small fact by a small map. -/
theorem map_small (hc : chk f m = 0) (hf : ∀ t ∈ f, t.1 < (ts.length : Int)) (hl : ts.length ≤ 256) (h : ∀ q ∈ ts, q.length ≤ r ∧ ∀ x ∈ q, 0 ≤ x ∧ x < N) (hr : r ≤ 256) (hN : N ≤ 64) (hB : 0 ≤ B) (hb : ∀ t ∈ f, -B ≤ t.2 ∧ t.2 ≤ B)
    (h1 : r * f.length ≤ 1024) (h2 : B * ((r * f.length : Nat) : Int) ≤ 1048576) : mapR f m ts = (normTo (toAll ts f) 256, m, 0) := by
  have hlen := all_len2 h f
  rw [mp_ok hc (isMap_of hl fun q hq => ⟨Nat.le_trans (h q hq).1 hr, fun x hx => by have := (h q hq).2 x hx; omega⟩) (fun i hi => by
    have e : f.getD i (0, 0) = f[i] := by simp [List.getD, List.getElem?_eq_getElem hi]
    rw [e]; exact hf _ (List.getElem_mem hi))]
  refine of_small (B := B) (N := N) (by omega) (ok_of hc).2.1 hN (fun t ht => all_mem h hb ht) hB ?_
  have : B * ((toAll ts f).length : Int) ≤ B * ((r * f.length : Nat) : Int) := Int.mul_le_mul_of_nonneg_left (by omega) hB
  omega
/-- Counts that are in their range. -/
theorem sum_is {cs : List Int} (hc : chk f m = 0) (hl : cs.length ≤ 256) (hb : ∀ c ∈ cs, 0 ≤ c ∧ c ≤ 2147483648) : sumR f m cs = (val f (fun b => cs.getD b.toNat 0), 0) := by
  rw [sum_ok hc (by omega) (fun i hi => by
    have e : cs.getD i 0 = cs[i] := by simp [List.getD, List.getElem?_eq_getElem hi]
    rw [e]
    have := hb _ (List.getElem_mem hi)
    unfold cbad
    simp
    omega), sm_all f cs fun t ht => (mem_chk hc ht).1.1]
/-- A fact as the laws make it. -/
structure Fk (n : Nat) (f : Tms) (m : Int) : Prop where
  chk : chk f m = 0
  len : f.length ≤ n
  mem : ∀ t ∈ f, (0 ≤ t.1 ∧ t.1 < n) ∧ (-36 ≤ t.2 ∧ t.2 ≤ 36)
  most : -5 ≤ m ∧ m ≤ 24
/-- A map as the laws make it. -/
structure Mk (n N : Nat) (ts : List (List Int)) : Prop where
  len : ts.length = n
  mem : ∀ q ∈ ts, q.length ≤ 3 ∧ ∀ x ∈ q, 0 ≤ x ∧ x < N
theorem of_chk' {r : Tms} (h : ofR l most = (r, most, 0)) : chk r most = 0 := of_chk h
/-- What some makes. -/
theorem some_fk {n : Nat} (hn : n ≤ 9) (hl : l.length ≤ n) (ht : ∀ t ∈ l, (0 ≤ t.1 ∧ t.1 < n) ∧ (-4 ≤ t.2 ∧ t.2 ≤ 4)) (hm : -5 ≤ m ∧ m ≤ 24) : ofR l m = (normTo l 256, m, 0) ∧ Fk n (normTo l 256) m := by
  have h := of_small (l := l) (most := m) (B := 4) (N := n) (by omega) (by rw [inC_iff]; omega) (by omega) ht (by omega) (by omega)
  refine ⟨h, of_chk h, ?_, fun t hx => ?_, hm⟩
  · have e : 256 = n + (256 - n) := by omega
    rw [e, norm_stop fun t h => (ht t h).1.2]
    exact norm_len l n
  · have hx' := hx
    rw [show 256 = n + (256 - n) by omega, norm_stop fun t h => (ht t h).1.2] at hx'
    obtain ⟨h1, h2, h3, h4⟩ := norm_mem hx'
    have hb := cf_bds (B := 4) (by omega) t.1 l (fun t h => (ht t h).2)
    rw [h3]
    omega
/-! ### FactGoesAlong -/
theorem lsum_bds {c : Int → Int} {K : Int} (hc : ∀ b, 0 ≤ c b ∧ c b ≤ K) : ∀ q : List Int, 0 ≤ lsum c q ∧ lsum c q ≤ K * q.length
  | [] => by simp [lsum]
  | x :: q => by
    have ih := lsum_bds hc q
    have := hc x
    have e : K * ((x :: q).length : Int) = K * q.length + K := by simp [Int.mul_add]
    simp only [lsum]
    rw [e]
    omega
theorem getD_bds {cs : List Int} {K : Int} (hK : 0 ≤ K) (h : ∀ c ∈ cs, 0 ≤ c ∧ c ≤ K) (i : Nat) : 0 ≤ cs.getD i 0 ∧ cs.getD i 0 ≤ K := by
  by_cases hi : i < cs.length
  · have e : cs.getD i 0 = cs[i] := by simp [List.getD, List.getElem?_eq_getElem hi]
    rw [e]
    exact h _ (List.getElem_mem hi)
  · have e : cs.getD i 0 = 0 := by simp [List.getD, List.getElem?_eq_none (show cs.length ≤ i by omega)]
    rw [e]; omega
theorem goes_along (hf : Fk n f m) (ht : Mk n N ts) (hn : n ≤ 9) (hN : N ≤ 64) {now : List Int} (hl : now.length ≤ 256) (hb : ∀ c ∈ now, 0 ≤ c ∧ c ≤ 14) :
    mapR f m ts = (normTo (toAll ts f) 256, m, 0) ∧ chk (normTo (toAll ts f) 256) m = 0 ∧ ∃ v, sumR f m (ts.map fun q => lsum (fun b => now.getD b.toNat 0) q) = (v, 0) ∧ sumR (normTo (toAll ts f) 256) m now = (v, 0) := by
  have hlen := hf.len
  have h1 : 3 * f.length ≤ 27 := by omega
  have hmap := map_small (B := 36) (r := 3) (N := N) hf.chk (fun t h => by rw [ht.len]; exact (hf.mem t h).1.2) (by rw [ht.len]; omega) ht.mem (by omega) hN (by omega) (fun t h => (hf.mem t h).2) (by omega) (by omega)
  have hck : chk (normTo (toAll ts f) 256) m = 0 := by
    rw [mp_ok hf.chk (isMap_of (by rw [ht.len]; omega) fun q hq => ⟨by have := (ht.mem q hq).1; omega, fun x hx => by have := (ht.mem q hq).2 x hx; omega⟩) (fun i hi => by
      have e : f.getD i (0, 0) = f[i] := by simp [List.getD, List.getElem?_eq_getElem hi]
      rw [e, ht.len]; exact (hf.mem _ (List.getElem_mem hi)).1.2)] at hmap
    exact of_chk hmap
  have hc : ∀ b : Int, 0 ≤ now.getD b.toNat 0 ∧ now.getD b.toNat 0 ≤ 14 := fun b => getD_bds (by omega) hb _
  have hold : ∀ c ∈ ts.map (fun q => lsum (fun b => now.getD b.toNat 0) q), 0 ≤ c ∧ c ≤ 2147483648 := by
    intro c hx
    obtain ⟨q, hq, rfl⟩ := List.mem_map.1 hx
    have h2 := lsum_bds hc q
    have h3 := (ht.mem q hq).1
    omega
  refine ⟨hmap, hck, _, sum_is hf.chk (by rw [List.length_map, ht.len]; omega) hold, ?_⟩
  rw [sum_is hck hl (fun c hx => by have := hb c hx; omega)]
  have hmm : ∀ t ∈ toAll ts f, 0 ≤ t.1 ∧ t.1 < 256 := fun t hx => by have := (all_mem ht.mem (fun t h => (hf.mem t h).2) hx).1; omega
  have he : val (normTo (toAll ts f) 256) (fun b => now.getD b.toNat 0) = val f (fun b => (ts.map fun q => lsum (fun b => now.getD b.toNat 0) q).getD b.toNat 0) := by
    rw [norm_val _ hmm, val_all]
    refine val_congr fun t hx => ?_
    have hlt : t.1.toNat < ts.length := by have := (hf.mem t hx).1; rw [ht.len]; omega
    simp [List.getD, List.getElem?_eq_getElem hlt]
  rw [he]
/-! ### Points, FactTwice -/
/-- One list of points, seen through a map. -/
def thr (ts : List (List Int)) (q : List Int) : List Int := q.flatMap fun b => ts.getD b.toNat []
def pointsR (ps ts : List (List Int)) : List (List Int) × Int :=
  if isMapB ps = false ∨ isMapB ts = false then ([], 10) else if ∃ q ∈ ps, ∃ x ∈ q, (ts.length : Int) ≤ x then ([], 11) else if ∃ q ∈ ps, 256 < (thr ts q).length then ([], 4) else (ps.map (thr ts), 0)
theorem thr_len (h : ∀ q ∈ ts, q.length ≤ r ∧ ∀ x ∈ q, 0 ≤ x ∧ x < N) : ∀ q : List Int, (thr ts q).length ≤ r * q.length
  | [] => by simp [thr]
  | x :: q => by
    have ih := thr_len h q
    have e : thr ts (x :: q) = ts.getD x.toNat [] ++ thr ts q := rfl
    rw [e, List.length_append, List.length_cons, Nat.mul_add]
    have := (row_mem x.toNat h).1
    omega
theorem thr_mem (h : ∀ q ∈ ts, q.length ≤ r ∧ ∀ x ∈ q, 0 ≤ x ∧ x < N) {q : List Int} {x : Int} (hx : x ∈ thr ts q) : 0 ≤ x ∧ x < N := by
  obtain ⟨b, _, hx⟩ := List.mem_flatMap.1 hx
  exact (row_mem _ h).2 x hx
theorem points_small {ps : List (List Int)} {M : Nat} (hp : Mk n M ps) (ht : Mk N r ts) (hn : n ≤ 256) (hM : M ≤ N) (hN : N ≤ 256) (hr : r ≤ 256) : pointsR ps ts = (ps.map (thr ts), 0) := by
  have h1 : isMapB ps = true := isMap_of (by rw [hp.len]; omega) fun q hq => ⟨by have := (hp.mem q hq).1; omega, fun x hx => by have := (hp.mem q hq).2 x hx; omega⟩
  have h2 : isMapB ts = true := isMap_of (by rw [ht.len]; omega) fun q hq => ⟨by have := (ht.mem q hq).1; omega, fun x hx => by have := (ht.mem q hq).2 x hx; omega⟩
  unfold pointsR
  rw [if_neg (by rw [h1, h2]; decide), if_neg, if_neg]
  · rintro ⟨q, hq, hx⟩
    have := thr_len ht.mem q
    have := (hp.mem q hq).1
    omega
  · rintro ⟨q, hq, x, hx, h3⟩
    have := (hp.mem q hq).2 x hx
    rw [ht.len] at h3
    omega
theorem all_thr {ps : List (List Int)} : ∀ {f : Tms}, (∀ t ∈ f, 0 ≤ t.1 ∧ t.1 < (ps.length : Int)) → toAll (ps.map (thr ts)) f = toAll ts (toAll ps f)
  | [], _ => rfl
  | t :: s, h => by
    have e1 : toAll (ps.map (thr ts)) (t :: s) = to1 (ps.map (thr ts)) t ++ toAll (ps.map (thr ts)) s := rfl
    have e2 : toAll ps (t :: s) = to1 ps t ++ toAll ps s := rfl
    have e3 : toAll ts (to1 ps t ++ toAll ps s) = toAll ts (to1 ps t) ++ toAll ts (toAll ps s) := by unfold toAll; rw [List.flatMap_append]
    rw [e1, e2, e3, all_thr (fun x hx => h x (by simp [hx]))]
    congr 1
    have hlt : t.1.toNat < ps.length := by have := h t (by simp); omega
    have e4 : (ps.map (thr ts)).getD t.1.toNat [] = thr ts (ps.getD t.1.toNat []) := by simp [List.getD, List.getElem?_eq_getElem hlt]
    unfold to1 toAll to1
    rw [e4]
    unfold thr
    rw [List.map_flatMap, List.flatMap_map]
theorem twice {ag : List (List Int)} (hf : Fk n f m) (ht : Mk n 12 ts) (ha : Mk 30 60 ag) (hn : n ≤ 6) :
    mapR f m ts = (normTo (toAll ts f) 256, m, 0) ∧ mapR (normTo (toAll ts f) 256) m ag = (normTo (toAll ag (toAll ts f)) 256, m, 0) ∧ pointsR ts ag = (ts.map (thr ag), 0) ∧ mapR f m (ts.map (thr ag)) = (normTo (toAll ag (toAll ts f)) 256, m, 0) := by
  have hlen := hf.len
  have hff : ∀ t ∈ f, t.1 < (ts.length : Int) := fun t h => by rw [ht.len]; exact (hf.mem t h).1.2
  have h1 := map_small (B := 36) (r := 3) (N := 12) hf.chk hff (by rw [ht.len]; omega) ht.mem (by omega) (by omega) (by omega) (fun t h => (hf.mem t h).2) (by omega) (by omega)
  have hck : chk (normTo (toAll ts f) 256) m = 0 := by
    have h1' := h1
    rw [mp_ok hf.chk (isMap_of (by rw [ht.len]; omega) fun q hq => ⟨by have := (ht.mem q hq).1; omega, fun x hx => by have := (ht.mem q hq).2 x hx; omega⟩) (fun i hi => by
      have e : f.getD i (0, 0) = f[i] := by simp [List.getD, List.getElem?_eq_getElem hi]
      rw [e]; exact hff _ (List.getElem_mem hi))] at h1'
    exact of_chk h1'
  have hmem := fun t (hx : t ∈ toAll ts f) => all_mem ht.mem (fun t h => (hf.mem t h).2) hx
  have hxl : (normTo (toAll ts f) 256).length ≤ 12 := by
    rw [show 256 = 12 + 244 by rfl, norm_stop fun t h => (hmem t h).1.2]
    exact norm_len _ _
  have hal := all_len2 ht.mem f
  have hxm : ∀ t ∈ normTo (toAll ts f) 256, (0 ≤ t.1 ∧ t.1 < 12) ∧ (-648 ≤ t.2 ∧ t.2 ≤ 648) := by
    intro t hx
    rw [show 256 = 12 + 244 by rfl, norm_stop fun t h => (hmem t h).1.2] at hx
    obtain ⟨q1, q2, q3, _⟩ := norm_mem hx
    have hb := cf_bds (B := 36) (by omega) t.1 (toAll ts f) (fun t h => (hmem t h).2)
    rw [q3]
    omega
  have h2 := map_small (B := 648) (r := 3) (N := 60) hck (fun t h => by rw [ha.len]; have := (hxm t h).1; omega) (by rw [ha.len]; omega) ha.mem (by omega) (by omega) (by omega) (fun t h => (hxm t h).2) (by omega) (by omega)
  have hnn : normTo (toAll ag (normTo (toAll ts f) 256)) 256 = normTo (toAll ag (toAll ts f)) 256 := norm_congr 256 fun o _ => by
    rw [cf_all, cf_all, norm_val _ fun t h => by have := (hmem t h).1; omega]
  rw [hnn] at h2
  have h4 := map_small (f := f) (m := m) (ts := ts.map (thr ag)) (B := 36) (r := 9) (N := 60) hf.chk (fun t h => by rw [List.length_map]; exact hff t h) (by rw [List.length_map, ht.len]; omega) (fun q hq => by
      obtain ⟨p, hp, rfl⟩ := List.mem_map.1 hq
      exact ⟨by have := thr_len ha.mem p; have := (ht.mem p hp).1; omega, fun x hx => thr_mem ha.mem hx⟩) (by omega) (by omega) (by omega) (fun t h => (hf.mem t h).2) (by omega) (by omega)
  rw [all_thr fun t h => ⟨(hf.mem t h).1.1, hff t h⟩] at h4
  exact ⟨h1, h2, points_small ht ha (by omega) (by omega) (by omega) (by omega), h4⟩
/-! ### FactSums -/
theorem val_scale (a : Int) (c : Int → Int) : ∀ f : Tms, val (f.map (scale a)) c = a * val f c
  | [] => by simp [val]
  | t :: s => by
    simp only [List.map_cons, val, val_scale a c s, scale]
    rw [Int.mul_add, Int.mul_assoc]
theorem sums {mg a b : Int} {cs : List Int} (hf : Fk 8 f m) (hg : Fk 8 g mg) (ha : 0 ≤ a ∧ a ≤ 255) (hb : 0 ≤ b ∧ b ≤ 255) (hl : cs.length ≤ 256) (hc : ∀ c ∈ cs, 0 ≤ c ∧ c ≤ 2147483648) :
    addR f m g mg a b = (normTo (f.map (scale a) ++ g.map (scale b)) 256, a * m + b * mg, 0) ∧ ∃ p q, sumR f m cs = (p, 0) ∧ sumR g mg cs = (q, 0) ∧ sumR (normTo (f.map (scale a) ++ g.map (scale b)) 256) (a * m + b * mg) cs = (a * p + b * q, 0) := by
  have hfl := hf.len
  have hgl := hg.len
  have hmul : ∀ {x y K : Int}, (0 ≤ x ∧ x ≤ 255) → 0 ≤ K → (-K ≤ y ∧ y ≤ K) → -(255 * K) ≤ x * y ∧ x * y ≤ 255 * K := by
    intro x y K hx hK hy
    have h1 : x * y ≤ x * K := Int.mul_le_mul_of_nonneg_left hy.2 hx.1
    have h2 : x * -K ≤ x * y := Int.mul_le_mul_of_nonneg_left hy.1 hx.1
    have h3 : x * K ≤ 255 * K := Int.mul_le_mul_of_nonneg_right hx.2 hK
    have h4 : x * -K = -(x * K) := by rw [Int.mul_neg]
    omega
  have hm1 := hmul ha (K := 24) (y := m) (by omega) (by have := hf.most; omega)
  have hm2 := hmul hb (K := 24) (y := mg) (by omega) (by have := hg.most; omega)
  have hmem : ∀ t ∈ f.map (scale a) ++ g.map (scale b), (0 ≤ t.1 ∧ t.1 < ((8 : Nat) : Int)) ∧ (-9180 ≤ t.2 ∧ t.2 ≤ 9180) := by
    intro t ht
    rcases List.mem_append.1 ht with h | h
    · obtain ⟨s, hs, rfl⟩ := List.mem_map.1 h
      have h5 := hf.mem s hs
      have h6 := hmul ha (K := 36) (by omega) h5.2
      exact ⟨h5.1, by unfold scale; dsimp only; omega⟩
    · obtain ⟨s, hs, rfl⟩ := List.mem_map.1 h
      have h5 := hg.mem s hs
      have h6 := hmul hb (K := 36) (by omega) h5.2
      exact ⟨h5.1, by unfold scale; dsimp only; omega⟩
  have hof := of_small (l := f.map (scale a) ++ g.map (scale b)) (most := a * m + b * mg) (B := 9180) (N := 8) (by simp; omega) (by rw [inC_iff]; omega) (by omega) hmem (by omega) (by simp; omega)
  have hab : abad a b = false := by unfold abad; simp; omega
  have hx := of_chk hof
  refine ⟨by rw [add_ok hf.chk hg.chk hab]; exact hof, _, _, sum_is hf.chk hl hc, sum_is hg.chk hl hc, ?_⟩
  rw [sum_is hx hl hc, norm_val _ (fun t h => by have := (hmem t h).1; omega), val_app, val_scale, val_scale]
theorem sums_holds {mg a b p q : Int} (ha : 0 ≤ a) (hb : 0 ≤ b) (hp : p ≤ m) (hq : q ≤ mg) : a * p + b * q ≤ a * m + b * mg := by
  have h1 := Int.mul_le_mul_of_nonneg_left hp ha
  have h2 := Int.mul_le_mul_of_nonneg_left hq hb
  omega
/-! ### FactOrder -/
theorem cf_comm (l l' : Tms) (o : Int) : cf (l ++ l') o = cf (l' ++ l) o := by rw [cf_app, cf_app]; omega
/-- Each term, and the one that cancels it. -/
def canc (l : Tms) : Tms := l.flatMap fun t => [t, (t.1, -t.2)]
theorem cf_canc (o : Int) : ∀ l : Tms, cf (canc l) o = 0
  | [] => rfl
  | t :: s => by
    have e : canc (t :: s) = t :: (t.1, -t.2) :: canc s := rfl
    rw [e]
    simp only [cf, cf_canc o s]
    split <;> omega
theorem norm_zero (h : ∀ o : Nat, cf l o = 0) : ∀ k, normTo l k = []
  | 0 => rfl
  | k + 1 => by simp only [normTo]; rw [norm_zero h k, sumAt_cf, h k, if_pos rfl]; rfl
theorem canc_len : ∀ l : Tms, (canc l).length = 2 * l.length
  | [] => rfl
  | t :: s => by
    have e : canc (t :: s) = t :: (t.1, -t.2) :: canc s := rfl
    rw [e, List.length_cons, List.length_cons, canc_len s, List.length_cons]
    omega
theorem order {k : Nat} (hl : l.length ≤ 29) (ht : ∀ t ∈ l, (0 ≤ t.1 ∧ t.1 < 12) ∧ (-10 ≤ t.2 ∧ t.2 ≤ 10)) (hm : -32768 ≤ most ∧ most ≤ 32767) :
    ofR l most = (normTo l 256, most, 0) ∧ ofR (l.drop k ++ l.take k) most = (normTo l 256, most, 0) ∧ ofR (normTo l 256) most = (normTo l 256, most, 0) ∧ ofR (canc l) most = ([], most, 0) ∧ chk (normTo l 256) most = 0 := by
  have hin : inC most = true := by rw [inC_iff]; omega
  have h1 := of_small (l := l) (most := most) (B := 10) (N := 12) (by omega) hin (by omega) ht (by omega) (by omega)
  have hk : (l.drop k ++ l.take k).length = l.length := by simp; omega
  have h2 := of_small (l := l.drop k ++ l.take k) (most := most) (B := 10) (N := 12) (by omega) hin (by omega) (fun t h => ht t (by
    rcases List.mem_append.1 h with h | h
    · exact List.mem_of_mem_drop h
    · exact List.mem_of_mem_take h)) (by omega) (by omega)
  have hn : normTo (l.drop k ++ l.take k) 256 = normTo l 256 := norm_congr 256 fun o _ => by rw [cf_comm, List.take_append_drop]
  rw [hn] at h2
  have hmem : ∀ t ∈ normTo l 256, (0 ≤ t.1 ∧ t.1 < (12 : Int)) ∧ (-290 ≤ t.2 ∧ t.2 ≤ 290) := by
    intro t hx
    rw [show 256 = 12 + 244 by rfl, norm_stop fun t h => (ht t h).1.2] at hx
    obtain ⟨q1, q2, q3, _⟩ := norm_mem hx
    have q2' : t.1 < (12 : Int) := q2
    have hb := cf_bds (B := 10) (by omega) t.1 l (fun t h => (ht t h).2)
    rw [q3]
    omega
  have hxl : (normTo l 256).length ≤ 12 := by
    rw [show 256 = 12 + 244 by rfl, norm_stop fun t h => (ht t h).1.2]
    exact norm_len _ _
  have h3 := of_small (l := normTo l 256) (most := most) (B := 290) (N := 12) (by omega) hin (by omega) hmem (by omega) (by omega)
  rw [norm_norm] at h3
  have h4 := of_small (l := canc l) (most := most) (B := 10) (N := 12) (by rw [canc_len]; omega) hin (by omega) (fun t h => by
    obtain ⟨s, hs, h⟩ := List.mem_flatMap.1 h
    have := ht s hs
    simp only [List.mem_cons, List.not_mem_nil, or_false] at h
    rcases h with rfl | rfl
    · exact this
    · exact ⟨this.1, by dsimp only; omega⟩) (by omega) (by rw [canc_len]; omega)
  rw [norm_zero (fun o => cf_canc o l)] at h4
  exact ⟨h1, h2, h3, h4, of_chk h1⟩
end Fa
end Go.Proofs.Ytpinncjnfbebkaa

/- What stands before a block, while it is found. No condition. -/
import Derived.Test.YtojnhdkclabkgaaMeRen
namespace Go.Proofs.Ytojnhdkclabkgaa
namespace Me
open Gr (G Blk blk0 op0)
set_option linter.unusedVariables false
/-- Adding under other numbers changes nothing here. -/
theorem add1_far (i : Nat) {x : Nat} : ∀ (q : List Int) (ts : List (List Int)), x < ts.length → (∀ y ∈ q, y.toNat ≠ x) → (q.foldl (add1 i) ts).getD x [] = ts.getD x []
  | [], ts, hx, hq => rfl
  | y :: q, ts, hx, hq => by
    rw [List.foldl_cons, add1_far i q _ (by unfold add1; rw [List.length_set]; exact hx) (fun z hz => hq z (by simp [hz]))]
    unfold add1
    rw [getD_set hx, if_neg (fun e => hq y (by simp) e.symm)]
theorem add1_mem (i : Nat) {x : Nat} : ∀ (q : List Int) (ts : List (List Int)), x < ts.length → ∀ z ∈ (q.foldl (add1 i) ts).getD x [], z ∈ ts.getD x [] ∨ z = (i : Int)
  | [], ts, hx => fun z hz => .inl hz
  | y :: q, ts, hx => fun z hz => by
    rw [List.foldl_cons] at hz
    rcases add1_mem i q _ (by unfold add1; rw [List.length_set]; exact hx) z hz with h | h
    · unfold add1 at h
      rw [getD_set hx] at h
      by_cases e : x = y.toNat
      · rw [if_pos e] at h
        rcases List.mem_append.1 h with h | h
        · rw [e]; exact .inl h
        · exact .inr (by simpa using h)
      · rw [if_neg e] at h; exact .inl h
    · exact .inr h
theorem befK_lt (l : List Blk) {x : Nat} (hx : x < l.length) : ∀ k, ∀ z ∈ (befK l k).getD x [], 0 ≤ z ∧ z < (k : Int)
  | 0 => fun z hz => by
    unfold befK at hz
    rw [getD_eq (by simpa using hx)] at hz
    simp at hz
  | k + 1 => fun z hz => by
    rcases add1_mem k _ _ (by rw [befK_len]; exact hx) z hz with h | h
    · have := befK_lt l hx k z h; omega
    · omega
/-- How far the successors of block k have been gone through. -/
def befJ (l : List Blk) (k j : Nat) : List (List Int) := ((l.getD k blk0).next.take j).foldl (add1 k) (befK l k)
theorem befJ_zero (l : List Blk) (k : Nat) : befJ l k 0 = befK l k := rfl
theorem befJ_all (l : List Blk) (k : Nat) : befJ l k (l.getD k blk0).next.length = befK l (k + 1) := by
  unfold befJ
  rw [List.take_length]
  rfl
theorem befJ_succ (l : List Blk) (k : Nat) {j : Nat} (hj : j < (l.getD k blk0).next.length) : befJ l k (j + 1) = (befJ l k j).set ((l.getD k blk0).next.getD j 0).toNat ((befJ l k j).getD ((l.getD k blk0).next.getD j 0).toNat [] ++ [(k : Int)]) := by
  unfold befJ
  rw [List.take_add_one, List.getElem?_eq_getElem hj, List.foldl_append, getD_eq hj]
  rfl
theorem befJ_len (l : List Blk) (k j : Nat) : (befJ l k j).length = l.length := by
  unfold befJ
  rw [add1_len, befK_len]
/-- Where a block is added its number does not stand yet. -/
theorem befJ_lt {l : List Blk} {k j : Nat} (hnx : ∀ x ∈ (l.getD k blk0).next, 1 ≤ x ∧ x < (l.length : Int)) (hnd : (l.getD k blk0).next.Nodup) (hj : j < (l.getD k blk0).next.length) :
    ∀ z ∈ (befJ l k j).getD ((l.getD k blk0).next.getD j 0).toNat [], 0 ≤ z ∧ z < (k : Int) := by
  have hx := hnx _ (getD_mem (d := (0 : Int)) hj)
  unfold befJ
  rw [add1_far k _ _ (by rw [befK_len]; omega) (fun y hy e => ?_)]
  · exact befK_lt l (by omega) k
  · obtain ⟨i, hi, rfl⟩ := mem_get (d := (0 : Int)) hy
    rw [List.length_take] at hi
    have hin : i < (l.getD k blk0).next.length := by omega
    have hy' := hnx _ (getD_mem (d := (0 : Int)) hin)
    rw [getD_eq (by rw [List.length_take]; omega), List.getElem_take] at e
    rw [getD_eq hin] at hy'
    rw [getD_eq hj] at e hx
    have e2 : (l.getD k blk0).next[i] = (l.getD k blk0).next[j] := by omega
    exact (List.pairwise_iff_getElem.1 hnd i j hin hj (by omega)) e2
theorem cn_le {l : List Blk} (h : ∀ k, k < l.length → (l.getD k blk0).next.length ≤ 2) (x : Int) : ∀ k, k ≤ l.length → cn l x k ≤ 2 * k
  | 0, _ => Nat.le_refl _
  | k + 1, hk => by
    have := cn_le h x k (by omega)
    have h1 := h k (by omega)
    have h2 : (l.getD k blk0).next.count x ≤ (l.getD k blk0).next.length := List.count_le_length
    unfold cn
    omega
theorem befJ_small {l : List Blk} (h2 : ∀ k, k < l.length → (l.getD k blk0).next.length ≤ 2) (hnx : ∀ k, k < l.length → ∀ x ∈ (l.getD k blk0).next, 1 ≤ x ∧ x < (l.length : Int)) {k j x : Nat} (hk : k < l.length) (hx : x < l.length) : ((befJ l k j).getD x []).length ≤ 2 * k + 2 := by
  unfold befJ
  rw [add1_cnt k _ _ (by rw [befK_len]; exact hx) (fun y hy => by have := hnx k hk y (List.mem_of_mem_take hy); omega), befK_cnt hnx hx k (by omega)]
  have h3 := cn_le h2 (x : Int) k (by omega)
  have h4 := h2 k hk
  have h5 : ((l.getD k blk0).next.take j).count (x : Int) ≤ ((l.getD k blk0).next.take j).length := List.count_le_length
  rw [List.length_take] at h5
  omega
end Me
end Go.Proofs.Ytojnhdkclabkgaa

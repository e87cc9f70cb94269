/- Map: its answer in plain words. No condition. -/
import Derived.Test.YtpinncjnfbebkaaFaLists
namespace Go.Proofs.Ytpinncjnfbebkaa
namespace Fa
/-- What one term becomes. -/
def to1 (ts : List (List Int)) (t : Int × Int) : Tms := (ts.getD t.1.toNat []).map fun x => (x, t.2)
def toAll (ts : List (List Int)) (f : Tms) : Tms := f.flatMap (to1 ts)
/-- Map: the terms, most and the error. -/
def mapR (f : Tms) (most : Int) (ts : List (List Int)) : Tms × Int × Int :=
  if chk f most ≠ 0 then ([], 0, chk f most) else if isMapB ts = false then ([], 0, 10) else if ∃ i, i < f.length ∧ (ts.length : Int) ≤ (f.getD i (0, 0)).1 then ([], 0, 11) else ofR (toAll ts f) most
variable {f : Tms} {most : Int} {ts : List (List Int)}
theorem mp_chk (h : chk f most ≠ 0) : mapR f most ts = ([], 0, chk f most) := if_pos h
theorem mp_map (h : chk f most = 0) (h2 : isMapB ts = false) : mapR f most ts = ([], 0, 10) := by unfold mapR; rw [if_neg (by simp [h]), if_pos h2]
theorem mp_block (h : chk f most = 0) (h2 : isMapB ts = true) {i : Nat} (hi : i < f.length) (h3 : (ts.length : Int) ≤ (f.getD i (0, 0)).1) : mapR f most ts = ([], 0, 11) := by
  unfold mapR; rw [if_neg (by simp [h]), if_neg (by simp [h2]), if_pos ⟨i, hi, h3⟩]
theorem mp_ok (h : chk f most = 0) (h2 : isMapB ts = true) (h3 : ∀ i, i < f.length → (f.getD i (0, 0)).1 < (ts.length : Int)) : mapR f most ts = ofR (toAll ts f) most := by
  unfold mapR; rw [if_neg (by simp [h]), if_neg (by simp [h2]), if_neg]
  rintro ⟨i, hi, h4⟩
  have := h3 i hi
  omega
theorem all_step (k : Nat) (hk : k < f.length) : toAll ts (f.take (k + 1)) = toAll ts (f.take k) ++ to1 ts (f.getD k (0, 0)) := by
  unfold toAll
  rw [List.take_add_one, List.flatMap_append]
  simp [List.getElem?_eq_getElem hk, List.getD]
/-- The first j of what a term becomes. -/
theorem one_step (q : List Int) (c : Int) (j : Nat) (hj : j < q.length) : (q.take (j + 1)).map (fun x => (x, c)) = (q.take j).map (fun x => (x, c)) ++ [(q.getD j 0, c)] := by
  rw [List.take_add_one, List.map_append]
  simp [List.getElem?_eq_getElem hj, List.getD]
theorem map_row (h : isMapB ts = true) {i : Nat} (hi : i < ts.length) : (ts.getD i []).length ≤ 256 := by
  unfold isMapB at h
  rw [Bool.and_eq_true, List.all_eq_true] at h
  have hm : ts.getD i [] ∈ ts := by simp [List.getD, List.getElem?_eq_getElem hi]
  have := h.2 _ hm
  unfold rowOk at this
  simp only [Bool.and_eq_true, decide_eq_true_eq] at this
  exact this.1
theorem all_len (h : isMapB ts = true) : ∀ k, (∀ i, i < k → i < f.length ∧ 0 ≤ (f.getD i (0, 0)).1 ∧ (f.getD i (0, 0)).1 < (ts.length : Int)) → (toAll ts (f.take k)).length ≤ 256 * k
  | 0, _ => by simp [toAll]
  | k + 1, hk => by
    have ih := all_len h k (fun i hi => hk i (by omega))
    have ⟨h1, h2, h3⟩ := hk k (by omega)
    rw [all_step k h1, List.length_append]
    have := map_row h (i := (f.getD k (0, 0)).1.toNat) (by omega)
    have e : (to1 ts (f.getD k (0, 0))).length = (ts.getD (f.getD k (0, 0)).1.toNat []).length := by simp [to1]
    omega
end Fa
end Go.Proofs.Ytpinncjnfbebkaa

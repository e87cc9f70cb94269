/- Merging as the specification does it: a graph without some blocks, renumbered. No condition. -/
import Derived.Test.YtojnhdkclabkgaaMeMath
namespace Go.Proofs.Ytojnhdkclabkgaa
namespace Me
open Gr (G Blk blk0 op0)
set_option linter.unusedVariables false
set_option linter.unusedSimpArgs false
def rb (t : List Int) (x : Blk) : Blk := rnm (fun n => t.getD n.toNat 0) x
def rblks (l : List Blk) (t : List Int) (k : Nat) : List Blk := (List.range k).flatMap fun i => if t.getD i 0 < 0 then [] else [rb t (l.getD i blk0)]
def rhds (l : List (Int × Int)) (t : List Int) (k : Nat) : List (Int × Int) := (List.range k).flatMap fun i => if 0 ≤ t.getD (l.getD i (0, 0)).1.toNat 0 then [(t.getD (l.getD i (0, 0)).1.toNat 0, (l.getD i (0, 0)).2)] else []
def rpt (t : List Int) (q : List Int) (k : Nat) : List Int := (List.range k).flatMap fun i => if 0 ≤ t.getD (q.getD i 0).toNat 0 then [t.getD (q.getD i 0).toNat 0] else []
/-- Renamed. -/
def ren (g : G) (t : List Int) : G := { g with blks := rblks g.blks t g.blks.length, hds := rhds g.hds t g.hds.length, pts := g.pts.map fun q => rpt t q q.length }
theorem rblks_succ (l : List Blk) (t : List Int) (k : Nat) : rblks l t (k + 1) = rblks l t k ++ (if t.getD k 0 < 0 then [] else [rb t (l.getD k blk0)]) := by
  unfold rblks
  rw [List.range_succ, List.flatMap_append]
  simp
theorem rhds_succ (l : List (Int × Int)) (t : List Int) (k : Nat) : rhds l t (k + 1) = rhds l t k ++ (if 0 ≤ t.getD (l.getD k (0, 0)).1.toNat 0 then [(t.getD (l.getD k (0, 0)).1.toNat 0, (l.getD k (0, 0)).2)] else []) := by
  unfold rhds
  rw [List.range_succ, List.flatMap_append]
  simp
theorem rpt_succ (t : List Int) (q : List Int) (k : Nat) : rpt t q (k + 1) = rpt t q k ++ (if 0 ≤ t.getD (q.getD k 0).toNat 0 then [t.getD (q.getD k 0).toNat 0] else []) := by
  unfold rpt
  rw [List.range_succ, List.flatMap_append]
  simp
theorem flat_le {α : Type} (f : Nat → List α) (h : ∀ i, (f i).length ≤ 1) : ∀ k, ((List.range k).flatMap f).length ≤ k
  | 0 => by simp
  | k + 1 => by
    rw [List.range_succ, List.flatMap_append, List.length_append]
    have := flat_le f h k
    have := h k
    simp only [List.flatMap_cons, List.flatMap_nil, List.append_nil]
    omega
theorem rblks_le (l : List Blk) (t : List Int) (k : Nat) : (rblks l t k).length ≤ k := flat_le _ (fun i => by split <;> simp) k
theorem rhds_le (l : List (Int × Int)) (t : List Int) (k : Nat) : (rhds l t k).length ≤ k := flat_le _ (fun i => by split <;> simp) k
theorem rpt_le (t : List Int) (q : List Int) (k : Nat) : (rpt t q k).length ≤ k := flat_le _ (fun i => by split <;> simp) k
/-- The numbers behind a merge, -1 for the block that is left out. -/
def tl (n b : Nat) : List Int := (List.range n).map fun i => if i = b then -1 else if i < b then (i : Int) else (i : Int) - 1
/-- A graph in which a has what b had, and stands for it in lists of points. -/
def xg (g : G) (a b : Nat) : G := { g with blks := g.blks.set a (jn g.blks a b), pts := g.pts.map fun q => q.map fun n => if n = (b : Int) then (a : Int) else n }
theorem tl_len (n b : Nat) : (tl n b).length = n := by simp [tl]
theorem tl_at {n b i : Nat} (h : i < n) : (tl n b).getD i 0 = if i = b then -1 else if i < b then (i : Int) else (i : Int) - 1 := by
  unfold tl
  rw [List.getD_eq_getElem?_getD, List.getElem?_map, List.getElem?_range h]
  rfl
theorem tl_place {n b : Nat} {a x : Int} (h : 0 ≤ x ∧ x < n) (hne : x ≠ (b : Int)) : (tl n b).getD x.toNat 0 = place a b x := by
  rw [tl_at (by omega)]
  rw [if_neg (by omega)]
  rcases (show x < b ∨ (b : Int) < x by omega) with h1 | h1
  · rw [place_lt h1, if_pos (by omega)]; omega
  · rw [place_gt h1, if_neg (by omega)]; omega
theorem flat_erase {α : Type} (f : Nat → α) (b : Nat) : ∀ n, (List.range n).flatMap (fun i => if i = b then [] else [f i]) = ((List.range n).map f).eraseIdx b
  | 0 => by simp
  | n + 1 => by
    rw [List.range_succ, List.flatMap_append, flat_erase f b n, List.map_append]
    rcases Nat.lt_trichotomy n b with h | h | h
    · rw [List.eraseIdx_of_length_le (by simp; omega), List.eraseIdx_of_length_le (by simp; omega)]
      simp [show ¬ n = b by omega]
    · subst h
      rw [List.eraseIdx_of_length_le (by simp), List.eraseIdx_append_of_length_le (by simp)]
      simp
    · rw [List.eraseIdx_append_of_lt_length (by simpa using h)]
      simp [show ¬ n = b by omega]
theorem range_getD {α : Type} (l : List α) (d : α) : (List.range l.length).map (fun i => l.getD i d) = l := by
  apply List.ext_getElem
  · simp
  · intro i h1 h2
    rw [List.getElem_map, List.getElem_range, getD_eq h2]
theorem map_ext {α β : Type} {f f' : α → β} {l : List α} (h : ∀ x ∈ l, f x = f' x) : l.map f = l.map f' := List.map_congr_left h
theorem range_map_at {α β : Type} (l : List α) (d : α) (f : α → β) : (List.range l.length).map (fun i => f (l.getD i d)) = l.map f := by
  conv => rhs; rw [← range_getD l d, List.map_map]
  rfl
theorem flat_cong {α : Type} {f : Nat → List α} {e : Nat → α} : ∀ (L : List Nat), (∀ i ∈ L, f i = [e i]) → L.flatMap f = L.map e
  | [], _ => rfl
  | i :: L, h => by
    rw [List.flatMap_cons, List.map_cons, h i (by simp), flat_cong L (fun j hj => h j (by simp [hj]))]
    rfl
theorem flat_same {α β : Type} {f f' : α → List β} (L : List α) (h : ∀ i ∈ L, f i = f' i) : L.flatMap f = L.flatMap f' := by
  rw [List.flatMap_def, List.flatMap_def, map_ext h]
theorem flat_one {α β : Type} (l : List α) (d : α) (g : α → List β) (f : α → β) (h : ∀ x ∈ l, g x = [f x]) : (List.range l.length).flatMap (fun i => g (l.getD i d)) = l.map f := by
  rw [← range_map_at l d f]
  exact flat_cong _ fun i hi => h _ (getD_mem (by simpa using hi))
theorem blk_ext {x y : Blk} (h1 : x.ops = y.ops) (h2 : x.cond = y.cond) (h3 : x.next = y.next) : x = y := by
  cases x; cases y; simp_all
/-- Renaming what was joined is merging. -/
theorem ren_join {g : G} {a b : Nat} (hI : Iv g) (h : Tk g a b) : ren (xg g a b) (tl g.blks.length b) = join g a b := by
  have hb := h.lb
  have ha := h.la
  have hne := h.ne
  have hab : (a : Int) ≠ (b : Int) := by omega
  have e1 : rblks (xg g a b).blks (tl g.blks.length b) (xg g a b).blks.length = (jb g.blks a b).map (rnm (place a b)) := by
    have hl : (xg g a b).blks.length = g.blks.length := by show (g.blks.set a _).length = _; rw [List.length_set]
    unfold rblks
    rw [hl]
    have hc : ∀ i ∈ List.range g.blks.length, (if (tl g.blks.length b).getD i 0 < 0 then [] else [rb (tl g.blks.length b) ((xg g a b).blks.getD i blk0)]) = (if i = b then [] else [rnm (place a b) ((xg g a b).blks.getD i blk0)]) := fun i hi => by
      have hi' : i < g.blks.length := by simpa using hi
      rw [tl_at hi']
      by_cases e : i = b
      · rw [if_pos e, if_pos (by omega), if_pos e]
      · rw [if_neg e, if_neg (by split <;> omega), if_neg e]
        congr 1
        refine blk_ext rfl rfl ?_
        show ((xg g a b).blks.getD i blk0).next.map _ = ((xg g a b).blks.getD i blk0).next.map _
        have hj : ∃ j, j < g.blks.length ∧ j ≠ a ∧ ((xg g a b).blks.getD i blk0).next = (g.blks.getD j blk0).next := by
          show ∃ j, j < g.blks.length ∧ j ≠ a ∧ ((g.blks.set a (jn g.blks a b)).getD i blk0).next = _
          rw [getD_set hi']
          by_cases e2 : i = a
          · rw [if_pos e2]; exact ⟨b, hb, fun e => hne e.symm, rfl⟩
          · rw [if_neg e2]; exact ⟨i, hi', e2, rfl⟩
        obtain ⟨j, hj1, hj2, hj3⟩ := hj
        rw [hj3]
        refine map_ext fun x hx => tl_place (by have := hI.nx j hj1 x hx; omega) (fun e => h.no j hj1 hj2 (e ▸ hx))
    rw [show (List.range g.blks.length).flatMap _ = (List.range g.blks.length).flatMap (fun i => if i = b then [] else [rnm (place a b) ((xg g a b).blks.getD i blk0)]) from flat_same _ hc]
    rw [flat_erase]
    unfold jb
    rw [map_erase]
    congr 1
    have := range_map_at (xg g a b).blks blk0 (rnm (place a b))
    rw [hl] at this
    exact this
  have e2 : rhds g.hds (tl g.blks.length b) g.hds.length = g.hds.map fun h => (place a b h.1, h.2) := by
    unfold rhds
    refine flat_one g.hds (0, 0) (fun h => if 0 ≤ (tl g.blks.length b).getD h.1.toNat 0 then [((tl g.blks.length b).getD h.1.toNat 0, h.2)] else []) _ fun x hx => ?_
    have hr := hI.hds x hx
    rw [tl_place (a := (a : Int)) (by omega) (h.hd x hx), if_pos (place_in (m := g.blks.length) (by omega) (by omega) hab hr).1]
  have e3 : (xg g a b).pts.map (fun q => rpt (tl g.blks.length b) q q.length) = g.pts.map fun q => q.map (place a b) := by
    show (g.pts.map _).map _ = _
    rw [List.map_map]
    refine map_ext fun q hq => ?_
    show rpt (tl g.blks.length b) (q.map fun n => if n = (b : Int) then (a : Int) else n) (q.map fun n => if n = (b : Int) then (a : Int) else n).length = q.map (place a b)
    unfold rpt
    rw [flat_one (q.map fun n => if n = (b : Int) then (a : Int) else n) 0 (fun n => if 0 ≤ (tl g.blks.length b).getD n.toNat 0 then [(tl g.blks.length b).getD n.toNat 0] else []) (place a b) (fun x hx => ?_), List.map_map]
    · refine map_ext fun n hn => ?_
      show place a b (if n = (b : Int) then (a : Int) else n) = place a b n
      by_cases e : n = (b : Int)
      · rw [if_pos e, e, place_eq hab]
      · rw [if_neg e]
    · obtain ⟨n, hn, rfl⟩ := List.mem_map.1 hx
      have hr := hI.pt q hq n hn
      have hx' : ∀ x : Int, 0 ≤ x ∧ x < g.blks.length → x ≠ (b : Int) → (if 0 ≤ (tl g.blks.length b).getD x.toNat 0 then [(tl g.blks.length b).getD x.toNat 0] else []) = [place a b x] := fun x hx hxb => by
        rw [tl_place (a := (a : Int)) hx hxb, if_pos (place_in (m := g.blks.length) (by omega) (by omega) hab hx).1]
      by_cases e : n = (b : Int)
      · rw [if_pos e]; exact hx' _ (by omega) hab
      · rw [if_neg e]; exact hx' _ hr e
  unfold ren join
  rw [e1, e3]
  show { g with blks := _, hds := rhds g.hds (tl g.blks.length b) g.hds.length, pts := _ } = _
  rw [e2]
/-- Where each block is then. -/
def tl2 (n a b : Nat) : List Int := (tl n b).set b ((tl n b).getD a 0)
theorem tl2_at {n a b : Nat} {x : Int} (ha : a < n) (hb : b < n) (hne : a ≠ b) (hx : 0 ≤ x ∧ x < n) : (tl2 n a b).getD x.toNat 0 = place a b x := by
  unfold tl2
  rw [getD_set (by rw [tl_len]; omega)]
  by_cases e : x.toNat = b
  · rw [if_pos e]
    have e2 : x = (b : Int) := by omega
    rw [e2, place_eq (by omega), ← tl_place (n := n) (x := (a : Int)) (by omega) (by omega)]
    rfl
  · rw [if_neg e]
    exact tl_place hx (by omega)
/-- The list of old blocks, renumbered. -/
theorem start_in {n : Nat} : ∀ x ∈ start n, 0 ≤ x ∧ x < (n : Int) := by
  intro x hx
  unfold start at hx
  obtain ⟨i, hi, rfl⟩ := List.mem_map.1 hx
  have : i < n := by simpa using hi
  omega
theorem start_len (n : Nat) : (start n).length = n := by simp [start]
theorem in_place {g : G} {a b : Nat} (h : Tk g a b) {t : List Int} (ht : ∀ x ∈ t, 0 ≤ x ∧ x < (g.blks.length : Int)) : ∀ x ∈ t.map (place a b), 0 ≤ x ∧ x < ((join g a b).blks.length : Int) := by
  intro x hx
  obtain ⟨y, hy, rfl⟩ := List.mem_map.1 hx
  have hb := h.lb
  have ha := h.la
  have hne := h.ne
  have := place_in (a := a) (b := b) (m := g.blks.length) (by omega) (by omega) (by omega) (ht y hy)
  rw [join_len hb]
  omega
/-- The search for a block that takes another one. -/
theorem first_some {g : G} {a : Nat} (ha : a < g.blks.length) (h : tk g a = true) (hno : ∀ j, j < a → tk g j = false) : first g = some a := by
  unfold first
  rw [List.find?_range_eq_some]
  exact ⟨h, by simpa using ha, fun j hj => by simpa using hno j hj⟩
theorem first_none {g : G} (hno : ∀ j, j < g.blks.length → tk g j = false) : first g = none := by
  unfold first
  rw [List.find?_range_eq_none]
  intro j hj
  simpa using hno j hj
theorem mg_go {g : G} {t : List Int} {f a : Nat} (h : first g = some a) : mg (f + 1) g t = mg f (join g a (nb g a).toNat) (t.map (place a (nb g a))) := by
  rw [mg, h]
theorem mg_end {g : G} {t : List Int} (h : first g = none) : ∀ f, mg f g t = (g, t)
  | 0 => rfl
  | f + 1 => by rw [mg, h]
end Me
end Go.Proofs.Ytojnhdkclabkgaa

/- Merging, as plain functions of a graph. No condition. -/
import Derived.Test.YtojnhdkclabkgaaGrMath
namespace Go.Proofs.Ytojnhdkclabkgaa
namespace Me
open Gr (G Blk blk0 op0)
set_option linter.unusedVariables false
set_option linter.unusedSimpArgs false
/-- The number that block n gets when b becomes a part of a. -/
def place (a b n : Int) : Int := if (if n = b then a else n) > b then (if n = b then a else n) - 1 else (if n = b then a else n)
def add1 (i : Nat) (ts : List (List Int)) (n : Int) : List (List Int) := ts.set n.toNat (ts.getD n.toNat [] ++ [(i : Int)])
/-- Which blocks are before which, out of the first k ones. -/
def befK (l : List Blk) : Nat → List (List Int)
  | 0 => List.replicate l.length []
  | k + 1 => (l.getD k blk0).next.foldl (add1 k) (befK l k)
def bef (l : List Blk) : List (List Int) := befK l l.length
def nb (g : G) (a : Nat) : Int := (g.blks.getD a blk0).next.getD 0 0
def unl (l : List Gr.Op) : Bool := decide (0 < l.length) && decide ((l.getD (l.length - 1) op0).kind = 7)
def lck (l : List Gr.Op) : Bool := decide (0 < l.length) && decide ((l.getD 0 op0).kind = 6)
def hd (g : G) (b : Int) : Bool := (List.range g.hds.length).any fun k => decide ((g.hds.getD k (0, 0)).1 = b)
def has (l : List Int) (x : Int) : Bool := (List.range l.length).any fun k => decide (l.getD k 0 = x)
def both (g : G) (a b : Int) : Bool := (List.range g.pts.length).any fun k => has (g.pts.getD k []) a && has (g.pts.getD k []) b
def apart (g : G) (a b : Int) : Bool := (((decide (a = b) || unl (g.blks.getD a.toNat blk0).ops) || lck (g.blks.getD b.toNat blk0).ops) || hd g b) || both g a b
/-- Block a takes another one. -/
def tk (g : G) (a : Nat) : Bool := decide ((g.blks.getD a blk0).next.length = 1) && (decide (((bef g.blks).getD (nb g a).toNat []).length = 1) && !apart g a (nb g a))
/-- The block that a becomes. -/
def jn (l : List Blk) (a b : Nat) : Blk := ⟨(l.getD a blk0).ops ++ (l.getD b blk0).ops, (l.getD b blk0).cond, (l.getD b blk0).next⟩
def jb (l : List Blk) (a b : Nat) : List Blk := (l.set a (jn l a b)).eraseIdx b
def rnm (f : Int → Int) (x : Blk) : Blk := { x with next := x.next.map f }
def join (g : G) (a b : Nat) : G := { g with blks := (jb g.blks a b).map (rnm (place a b)), pts := g.pts.map (fun q => q.map (place a b)), hds := g.hds.map fun h => (place a b h.1, h.2) }
def first (g : G) : Option Nat := (List.range g.blks.length).find? (tk g)
def mg : Nat → G → List Int → G × List Int
  | 0, g, t => (g, t)
  | f + 1, g, t => match first g with
    | none => (g, t)
    | some a => mg f (join g a (nb g a).toNat) (t.map (place a (nb g a)))
def start (n : Nat) : List Int := (List.range n).map fun (i : Nat) => (i : Int)
/-- What is so of a right graph, and stays so. -/
structure Iv (g : G) : Prop where
  lo : 1 ≤ g.blks.length
  hi : g.blks.length ≤ 64
  sum : (g.blks.map fun x => x.ops.length).sum ≤ 600
  two : ∀ k, k < g.blks.length → (g.blks.getD k blk0).next.length ≤ 2
  nx : ∀ k, k < g.blks.length → ∀ x ∈ (g.blks.getD k blk0).next, 1 ≤ x ∧ x < g.blks.length
  nd : ∀ k, k < g.blks.length → (g.blks.getD k blk0).next.Nodup
  ptn : g.pts.length ≤ 39
  ptl : ∀ q ∈ g.pts, q.length ≤ 64
  pt : ∀ q ∈ g.pts, ∀ x ∈ q, 0 ≤ x ∧ x < g.blks.length
  hdn : g.hds.length ≤ 64
  hds : ∀ h ∈ g.hds, 0 ≤ h.1 ∧ h.1 < g.blks.length
  ins : g.ins.length ≤ 64
  ars : g.ars.length ≤ 8
theorem getD_mem {α : Type} {l : List α} {k : Nat} {d : α} (h : k < l.length) : l.getD k d ∈ l := by
  rw [List.getD_eq_getElem?_getD, List.getElem?_eq_getElem h]
  exact List.getElem_mem h
theorem getD_eq {α : Type} {l : List α} {k : Nat} {d : α} (h : k < l.length) : l.getD k d = l[k] := by
  rw [List.getD_eq_getElem?_getD, List.getElem?_eq_getElem h]; rfl
theorem mem_get {α : Type} {l : List α} {x d : α} (h : x ∈ l) : ∃ k, k < l.length ∧ l.getD k d = x := by
  obtain ⟨k, hk, rfl⟩ := List.getElem_of_mem h
  exact ⟨k, hk, getD_eq hk⟩
theorem getD_ne {α : Type} {l : List α} {k : Nat} {d : α} (h : ¬ k < l.length) : l.getD k d = d := by
  rw [List.getD_eq_getElem?_getD, List.getElem?_eq_none (by omega)]; rfl
theorem getD_map {α β : Type} {l : List α} {k : Nat} {d : α} {e : β} (f : α → β) (h : k < l.length) : (l.map f).getD k e = f (l.getD k d) := by
  rw [getD_eq (by simpa using h), getD_eq h]; simp
theorem getD_set {α : Type} {l : List α} {i k : Nat} {x d : α} (h : k < l.length) : (l.set i x).getD k d = if k = i then x else l.getD k d := by
  rw [getD_eq (by simpa using h), getD_eq h, List.getElem_set]
  by_cases e : i = k
  · rw [if_pos e, if_pos e.symm]
  · rw [if_neg e, if_neg (fun h => e h.symm)]
theorem getD_erase {α : Type} {l : List α} {i k : Nat} {d : α} (h : k + 1 < l.length) (hi : i < l.length) : (l.eraseIdx i).getD k d = if k < i then l.getD k d else l.getD (k + 1) d := by
  have hl : (l.eraseIdx i).length = l.length - 1 := by rw [List.length_eraseIdx, if_pos hi]
  rw [getD_eq (by omega), List.getElem_eraseIdx]
  split
  · rw [getD_eq]
  · rw [getD_eq]
theorem sum_erase : ∀ (l : List Nat) (i : Nat), i < l.length → (l.eraseIdx i).sum + l.getD i 0 = l.sum
  | [], i, h => by simp at h
  | x :: l, 0, h => by simp; omega
  | x :: l, i + 1, h => by
    have := sum_erase l i (by simpa using h)
    simp only [List.eraseIdx_cons_succ, List.sum_cons, List.getD_cons_succ]
    omega
theorem sum_set : ∀ (l : List Nat) (i x : Nat), i < l.length → (l.set i x).sum + l.getD i 0 = l.sum + x
  | [], i, x, h => by simp at h
  | y :: l, 0, x, h => by simp; omega
  | y :: l, i + 1, x, h => by
    have := sum_set l i x (by simpa using h)
    simp only [List.set_cons_succ, List.sum_cons, List.getD_cons_succ]
    omega
theorem sum_ge : ∀ (l : List Nat) (i : Nat), l.getD i 0 ≤ l.sum
  | [], i => by simp
  | x :: l, 0 => by simp
  | x :: l, i + 1 => by
    have := sum_ge l i
    simp only [List.getD_cons_succ, List.sum_cons]
    omega
theorem map_erase {α β : Type} (f : α → β) : ∀ (l : List α) (i : Nat), (l.eraseIdx i).map f = (l.map f).eraseIdx i
  | [], i => by simp
  | x :: l, 0 => by simp
  | x :: l, i + 1 => by simp [map_erase f l i]
/-- How often x stands in the successors of the first k blocks. -/
def cn (l : List Blk) (x : Int) : Nat → Nat
  | 0 => 0
  | k + 1 => cn l x k + (l.getD k blk0).next.count x
theorem add1_len (i : Nat) (q : List Int) : ∀ ts : List (List Int), (q.foldl (add1 i) ts).length = ts.length := by
  induction q with
  | nil => intro ts; rfl
  | cons y q ih => intro ts; rw [List.foldl_cons, ih]; unfold add1; rw [List.length_set]
theorem befK_len (l : List Blk) : ∀ k, (befK l k).length = l.length
  | 0 => by simp [befK]
  | k + 1 => by rw [befK, add1_len, befK_len l k]
theorem add1_cnt (i : Nat) {x : Nat} : ∀ (q : List Int) (ts : List (List Int)), x < ts.length → (∀ y ∈ q, 0 ≤ y) → ((q.foldl (add1 i) ts).getD x []).length = (ts.getD x []).length + q.count (x : Int)
  | [], ts, hx, hq => by simp
  | y :: q, ts, hx, hq => by
    have hy := hq y (by simp)
    rw [List.foldl_cons, add1_cnt i q _ (by unfold add1; rw [List.length_set]; exact hx) (fun z hz => hq z (by simp [hz]))]
    unfold add1
    rw [getD_set hx, List.count_cons]
    by_cases e : x = y.toNat
    · rw [if_pos e, ← e, List.length_append]
      have e2 : (y == (x : Int)) = true := by simp; omega
      rw [if_pos e2]
      simp; omega
    · rw [if_neg e]
      have e2 : ¬ (y == (x : Int)) = true := by simp; omega
      rw [if_neg e2]; omega
theorem befK_cnt {l : List Blk} (hn : ∀ k, k < l.length → ∀ y ∈ (l.getD k blk0).next, 1 ≤ y ∧ y < l.length) {x : Nat} (hx : x < l.length) : ∀ k, k ≤ l.length → ((befK l k).getD x []).length = cn l x k
  | 0, _ => by
    unfold befK cn
    rw [getD_eq (by simpa using hx)]
    simp
  | k + 1, hk => by
    unfold befK cn
    rw [add1_cnt k _ _ (by rw [befK_len]; exact hx) (fun y hy => by have := hn k (by omega) y hy; omega), befK_cnt hn hx k (by omega)]
theorem cn_mono (l : List Blk) (x : Int) : ∀ k m, k ≤ m → cn l x k ≤ cn l x m
  | k, 0, h => by obtain rfl : k = 0 := by omega
                  exact Nat.le_refl _
  | k, m + 1, h => by
    by_cases e : k = m + 1
    · subst e; exact Nat.le_refl _
    · have := cn_mono l x k m (by omega)
      unfold cn at this ⊢
      cases m <;> simp_all [cn] <;> omega
theorem cn_two (l : List Blk) (x : Int) {i j m : Nat} (hij : i < j) (hj : j < m) : (l.getD i blk0).next.count x + (l.getD j blk0).next.count x ≤ cn l x m := by
  have h1 := cn_mono l x (i + 1) j (by omega)
  have h2 := cn_mono l x (j + 1) m (by omega)
  have e1 : cn l x (i + 1) = cn l x i + (l.getD i blk0).next.count x := rfl
  have e2 : cn l x (j + 1) = cn l x j + (l.getD j blk0).next.count x := rfl
  omega
/-- What a block that takes another one means. -/
structure Tk (g : G) (a b : Nat) : Prop where
  la : a < g.blks.length
  lb : b < g.blks.length
  b1 : 1 ≤ b
  nb : nb g a = (b : Int)
  ne : a ≠ b
  nx : (g.blks.getD a blk0).next = [(b : Int)]
  no : ∀ k, k < g.blks.length → k ≠ a → (b : Int) ∉ (g.blks.getD k blk0).next
  hd : ∀ h ∈ g.hds, h.1 ≠ (b : Int)
theorem Tk.of {g : G} (hI : Iv g) {a : Nat} (ha : a < g.blks.length) (h : tk g a = true) : Tk g a (Me.nb g a).toNat := by
  unfold tk apart at h
  simp only [Bool.and_eq_true, decide_eq_true_eq, Bool.not_eq_true', Bool.or_eq_false_iff, decide_eq_false_iff_not] at h
  obtain ⟨h1, h2, ⟨⟨⟨h3, h4⟩, h5⟩, h6⟩, h7⟩ := h
  obtain ⟨y, hy⟩ : ∃ y, (g.blks.getD a blk0).next = [y] := List.length_eq_one_iff.1 h1
  have hb : Me.nb g a = y := by unfold Me.nb; rw [hy]; rfl
  have hr := hI.nx a ha y (by rw [hy]; simp)
  rw [hb] at h2 h3 h6 ⊢
  have hyn : ((y.toNat : Nat) : Int) = y := by omega
  have hlt : y.toNat < g.blks.length := by omega
  refine ⟨ha, hlt, by omega, by omega, by omega, by rw [hyn]; exact hy, fun k hk hka hm => ?_, fun h hh => ?_⟩
  · unfold bef at h2
    rw [befK_cnt hI.nx hlt _ (Nat.le_refl _)] at h2
    have c1 : 0 < (g.blks.getD k blk0).next.count (y.toNat : Int) := List.count_pos_iff.2 hm
    have c2 : 0 < (g.blks.getD a blk0).next.count (y.toNat : Int) := List.count_pos_iff.2 (by rw [hy, hyn]; simp)
    rcases Nat.lt_or_gt_of_ne hka with hl | hl
    · have := cn_two g.blks (y.toNat : Int) hl ha; omega
    · have := cn_two g.blks (y.toNat : Int) hl hk; omega
  · unfold Me.hd at h6
    rw [List.any_eq_false] at h6
    obtain ⟨k, hk, rfl⟩ := mem_get (d := ((0, 0) : Int × Int)) hh
    have := h6 k (by simpa using hk)
    rw [hyn]
    simpa using this
theorem place_lt {a b n : Int} (h : n < b) : place a b n = n := by
  unfold place
  have e : n ≠ b := by omega
  rw [if_neg e, if_neg (by omega)]
theorem place_gt {a b n : Int} (h : b < n) : place a b n = n - 1 := by
  unfold place
  have e : n ≠ b := by omega
  rw [if_neg e, if_pos (by omega)]
theorem place_eq {a b : Int} (h : a ≠ b) : place a b b = place a b a := by
  unfold place
  rw [if_pos rfl, if_neg h]
theorem place_in {a b n : Int} {m : Nat} (ha : 0 ≤ a ∧ a < m) (hb : 0 ≤ b ∧ b < m) (hab : a ≠ b) (hn : 0 ≤ n ∧ n < m) : 0 ≤ place a b n ∧ place a b n < (m : Int) - 1 := by
  rcases (show n < b ∨ n = b ∨ b < n by omega) with h | h | h
  · rw [place_lt h]; omega
  · subst h
    rw [place_eq hab]
    rcases (show a < n ∨ n < a by omega) with h | h
    · rw [place_lt h]; omega
    · rw [place_gt h]; omega
  · rw [place_gt h]; omega
theorem place_one {a b n : Int} {m : Nat} (hb : 1 ≤ b ∧ b < m) (hn : 1 ≤ n ∧ n < m) (hne : n ≠ b) : 1 ≤ place a b n ∧ place a b n < (m : Int) - 1 := by
  rcases (show n < b ∨ b < n by omega) with h | h
  · rw [place_lt h]; omega
  · rw [place_gt h]; omega
theorem place_inj {a b n m : Int} (h1 : n ≠ b) (h2 : m ≠ b) (h : place a b n = place a b m) : n = m := by
  rcases (show n < b ∨ b < n by omega) with h3 | h3 <;> rcases (show m < b ∨ b < m by omega) with h4 | h4
  · rw [place_lt h3, place_lt h4] at h; exact h
  · rw [place_lt h3, place_gt h4] at h; omega
  · rw [place_gt h3, place_lt h4] at h; omega
  · rw [place_gt h3, place_gt h4] at h; omega
theorem nodup_place {a b : Int} : ∀ {q : List Int}, q.Nodup → b ∉ q → (q.map (place a b)).Nodup
  | [], _, _ => by simp
  | y :: q, h, hb => by
    rw [List.map_cons, List.nodup_cons]
    rw [List.nodup_cons] at h
    simp only [List.mem_cons, not_or] at hb
    refine ⟨fun hm => ?_, nodup_place h.2 hb.2⟩
    obtain ⟨z, hz, e⟩ := List.mem_map.1 hm
    have := place_inj (a := a) (b := b) (n := z) (m := y) (fun e' => hb.2 (e' ▸ hz)) (fun e' => hb.1 e'.symm) e
    exact h.1 (this ▸ hz)
theorem jb_len {l : List Blk} {a b : Nat} (hb : b < l.length) : (jb l a b).length = l.length - 1 := by
  unfold jb
  rw [List.length_eraseIdx, List.length_set, if_pos hb]
theorem join_len {g : G} {a b : Nat} (hb : b < g.blks.length) : (join g a b).blks.length = g.blks.length - 1 := by
  show ((jb g.blks a b).map _).length = _
  rw [List.length_map, jb_len hb]
theorem jb_next {g : G} {a b : Nat} (h : Tk g a b) {k : Nat} (hk : k < g.blks.length - 1) : ∃ j, j < g.blks.length ∧ j ≠ a ∧ ((jb g.blks a b).getD k blk0).next = (g.blks.getD j blk0).next := by
  have hb := h.lb
  unfold jb
  rw [getD_erase (by rw [List.length_set]; omega) (by rw [List.length_set]; exact hb)]
  split
  · rw [getD_set (by omega)]
    split
    · exact ⟨b, hb, fun e => h.ne e.symm, rfl⟩
    · rename_i e; exact ⟨k, by omega, e, rfl⟩
  · rw [getD_set (by omega)]
    split
    · exact ⟨b, hb, fun e => h.ne e.symm, rfl⟩
    · rename_i e; exact ⟨k + 1, by omega, e, rfl⟩
theorem getD_map0 (l : List Blk) (k : Nat) : (l.map fun x => x.ops.length).getD k 0 = (l.getD k blk0).ops.length := by
  by_cases h : k < l.length
  · rw [getD_map (d := blk0) _ h]
  · rw [getD_ne (by simpa using h), getD_ne h]; rfl
theorem Iv.op {g : G} (h : Iv g) (k : Nat) : (g.blks.getD k blk0).ops.length ≤ 600 := by
  rw [← getD_map0]
  exact Nat.le_trans (sum_ge _ k) h.sum
theorem Iv.join {g : G} {a b : Nat} (hI : Iv g) (h : Tk g a b) : Iv (Me.join g a b) := by
  have hb := h.lb
  have ha := h.la
  have hb1 := h.b1
  have hne := h.ne
  have hl := join_len (a := a) hb
  have hhi := hI.hi
  have hab : (a : Int) ≠ (b : Int) := by omega
  have hnx : ∀ k, k < g.blks.length - 1 → ∃ j, j < g.blks.length ∧ j ≠ a ∧ ((Me.join g a b).blks.getD k blk0).next = (g.blks.getD j blk0).next.map (place a b) := fun k hk => by
    obtain ⟨j, h1, h2, h3⟩ := jb_next h hk
    refine ⟨j, h1, h2, ?_⟩
    show (((jb g.blks a b).map (rnm (place a b))).getD k blk0).next = _
    rw [getD_map (d := blk0) _ (by rw [jb_len hb]; exact hk)]
    show (((jb g.blks a b).getD k blk0).next).map _ = _
    rw [h3]
  refine ⟨by omega, by omega, ?_, fun k hk => ?_, fun k hk x hx => ?_, fun k hk => ?_, by show (g.pts.map _).length ≤ 39; rw [List.length_map]; exact hI.ptn, fun q hq => ?_, fun q hq x hx => ?_, by show (g.hds.map _).length ≤ 64; rw [List.length_map]; exact hI.hdn, fun h' hh => ?_, hI.ins, hI.ars⟩
  · have e : ((Me.join g a b).blks.map fun x => x.ops.length) = ((g.blks.map fun x => x.ops.length).set a ((g.blks.getD a blk0).ops.length + (g.blks.getD b blk0).ops.length)).eraseIdx b := by
      show (((jb g.blks a b).map (rnm (place a b))).map fun x => x.ops.length) = _
      rw [List.map_map]
      unfold jb
      rw [map_erase, List.map_set]
      congr 1
      show ((g.blks.map fun x => x.ops.length).set a (jn g.blks a b).ops.length) = _
      unfold jn
      rw [List.length_append]
    have s1 := sum_erase ((g.blks.map fun x => x.ops.length).set a ((g.blks.getD a blk0).ops.length + (g.blks.getD b blk0).ops.length)) b (by simpa using hb)
    have s2 := sum_set (g.blks.map fun x => x.ops.length) a ((g.blks.getD a blk0).ops.length + (g.blks.getD b blk0).ops.length) (by simpa using ha)
    rw [getD_set (by simpa using hb), if_neg (fun e => hne e.symm), getD_map0] at s1
    rw [getD_map0] at s2
    rw [e]
    have := hI.sum
    omega
  · obtain ⟨j, h1, h2, h3⟩ := hnx k (by omega)
    rw [h3, List.length_map]
    exact hI.two j h1
  · obtain ⟨j, h1, h2, h3⟩ := hnx k (by omega)
    rw [h3] at hx
    obtain ⟨y, hy, rfl⟩ := List.mem_map.1 hx
    have := place_one (a := a) (b := b) (n := y) (m := g.blks.length) (by omega) (hI.nx j h1 y hy) (fun e => h.no j h1 h2 (e ▸ hy))
    omega
  · obtain ⟨j, h1, h2, h3⟩ := hnx k (by omega)
    rw [h3]
    exact nodup_place (hI.nd j h1) (h.no j h1 h2)
  · obtain ⟨q', hq', rfl⟩ := List.mem_map.1 hq
    rw [List.length_map]
    exact hI.ptl q' hq'
  · obtain ⟨q', hq', rfl⟩ := List.mem_map.1 hq
    obtain ⟨y, hy, rfl⟩ := List.mem_map.1 hx
    have := place_in (a := a) (b := b) (n := y) (m := g.blks.length) (by omega) (by omega) hab (hI.pt q' hq' y hy)
    omega
  · obtain ⟨h2, hh2, rfl⟩ := List.mem_map.1 hh
    have := place_in (a := a) (b := b) (n := h2.1) (m := g.blks.length) (by omega) (by omega) hab (hI.hds h2 hh2)
    show 0 ≤ place a b h2.1 ∧ place a b h2.1 < _
    omega
end Me
end Go.Proofs.Ytojnhdkclabkgaa

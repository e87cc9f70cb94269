/- Instructions: what is so of them, as plain mathematics. -/
import Derived.Test.YthcjohfngnffpaaPlRow
import Derived.Test.YthcjohfngnffpaaWdPlain
namespace Go.Proofs.Ythcjohfngnffpaa
open Go.RowKit
set_option linter.unusedVariables false
set_option linter.unusedSimpArgs false
namespace In
structure I where
  k : Int
  a : Int
  b : Int
  c : Int
  o : Int
  m : Int
deriving DecidableEq
structure Sh where
  a0 : Int
  a1 : Int
  b0 : Int
  b1 : Int
  c0 : Int
  c1 : Int
  o0 : Int
  o1 : Int
  m0 : Int
  m1 : Int
/-- What the fields can be. -/
def sh (k : Int) : Sh :=
  if k = 0 ∨ k = 10 then ⟨0, 0, 0, 0, 0, 0, 0, 0, 0, 0⟩
  else if k = 1 then ⟨0, 7, 0, 0, 0, 0, 0, 0, -2147483648, 2147483647⟩
  else if k = 2 then ⟨0, 7, 0, 7, 0, 0, 0, 0, 0, 0⟩
  else if k = 3 then ⟨0, 7, 0, 7, 0, 7, 1, 14, 0, 0⟩
  else if k = 4 ∨ k = 5 then ⟨0, 7, 0, 7, 0, 0, 0, 0, 0, 1023⟩
  else if k = 6 then ⟨0, 0, 0, 0, 0, 0, 0, 0, 0, 1023⟩
  else if k = 7 then ⟨0, 7, 0, 0, 0, 0, 0, 0, 0, 1023⟩
  else if k = 8 ∨ k = 9 then ⟨0, 0, 0, 0, 0, 0, 0, 0, 0, 3⟩
  else ⟨0, 0, 0, 0, 0, 0, 0, 0, 0, 0⟩
def kn (k : Int) : Bool := decide (0 ≤ k ∧ k ≤ 10)
def inn (lo hi n : Int) : Bool := decide (lo ≤ n) && decide (n ≤ hi)
def right (s : Sh) (i : I) : Bool := inn s.a0 s.a1 i.a && inn s.b0 s.b1 i.b && inn s.c0 s.c1 i.c && inn s.o0 s.o1 i.o && inn s.m0 s.m1 i.m
/-- What Check answers. -/
def chk (i : I) : Int := if kn i.k = true then (if right (sh i.k) i = true then 0 else 10) else 6
/-- The bounds of the fields of a valid instruction. -/
structure V (i : I) : Prop where
  k0 : 0 ≤ i.k
  k1 : i.k ≤ 10
  a0 : 0 ≤ i.a
  a1 : i.a ≤ 7
  b0 : 0 ≤ i.b
  b1 : i.b ≤ 7
  c0 : 0 ≤ i.c
  c1 : i.c ≤ 7
  o0 : 0 ≤ i.o
  o1 : i.o ≤ 14
  m0 : -2147483648 ≤ i.m
  m1 : i.m ≤ 2147483647
theorem kn_cases {k : Int} (h : kn k = true) : k = 0 ∨ k = 1 ∨ k = 2 ∨ k = 3 ∨ k = 4 ∨ k = 5 ∨ k = 6 ∨ k = 7 ∨ k = 8 ∨ k = 9 ∨ k = 10 := by
  unfold kn at h
  rw [decide_eq_true_eq] at h
  omega
theorem inn_iff {lo hi n : Int} : inn lo hi n = true ↔ lo ≤ n ∧ n ≤ hi := by unfold inn; simp
theorem right_iff {s : Sh} {i : I} : right s i = true ↔ (s.a0 ≤ i.a ∧ i.a ≤ s.a1) ∧ (s.b0 ≤ i.b ∧ i.b ≤ s.b1) ∧ (s.c0 ≤ i.c ∧ i.c ≤ s.c1) ∧ (s.o0 ≤ i.o ∧ i.o ≤ s.o1) ∧ (s.m0 ≤ i.m ∧ i.m ≤ s.m1) := by
  unfold right
  simp only [Bool.and_eq_true, inn_iff]
  constructor
  · rintro ⟨⟨⟨⟨h1, h2⟩, h3⟩, h4⟩, h5⟩; exact ⟨h1, h2, h3, h4, h5⟩
  · rintro ⟨h1, h2, h3, h4, h5⟩; exact ⟨⟨⟨⟨h1, h2⟩, h3⟩, h4⟩, h5⟩
theorem chk_zero {i : I} (h : chk i = 0) : kn i.k = true ∧ right (sh i.k) i = true := by
  unfold chk at h
  split at h
  · split at h
    · exact ⟨by assumption, by assumption⟩
    · omega
  · omega
theorem chk_in (i : I) : chk i = 0 ∨ chk i = 6 ∨ chk i = 10 := by
  unfold chk
  split
  · split <;> simp
  · simp
theorem V.of {i : I} (h : chk i = 0) : V i := by
  obtain ⟨hk, hr⟩ := chk_zero h
  rw [right_iff] at hr
  obtain ⟨k, a, b, c, o, m⟩ := i
  simp only at hk hr
  rcases kn_cases hk with rfl | rfl | rfl | rfl | rfl | rfl | rfl | rfl | rfl | rfl | rfl <;>
    (simp [sh] at hr; constructor <;> simp only <;> omega)
/-- The registers of a list, ascending, each once, without 0. -/
def rl (p : List Int) : List Int := ([1, 2, 3, 4, 5, 6, 7] : List Int).filter fun r => p.contains r
/-- What Reads answers. -/
def rds (i : I) : List Int :=
  if chk i ≠ 0 then [] else if i.k = 2 ∨ i.k = 4 then rl [i.b] else if i.k = 3 then rl [i.b, i.c] else if i.k = 5 then rl [i.a, i.b] else if i.k = 7 then rl [i.a] else []
/-- What Writes answers. -/
def wr (i : I) : Int := if chk i = 0 ∧ 1 ≤ i.k ∧ i.k ≤ 4 then i.a else 0
def w8 (n : Int) : Int := n % 256
/-- The bytes of an instruction. -/
def en (i : I) : List Int := [w8 i.k, w8 (16 * i.a + i.b), w8 i.c, w8 i.o, w8 (i.m / 16777216), w8 (i.m / 65536), w8 (i.m / 256), w8 i.m]
theorem en_len (i : I) : (en i).length = 8 := rfl
/-- The error of Encode. -/
def err : List I → Int
  | [] => 0
  | i :: l => if chk i = 0 then err l else chk i
def eno (l : List I) : Int := if 1024 < l.length then 4 else err l
def enb (l : List I) : List Int := if eno l = 0 then l.flatMap en else []
theorem err_zero : ∀ {l : List I}, err l = 0 → ∀ i ∈ l, chk i = 0
  | [], _, i, hi => by simp at hi
  | x :: l, h, i, hi => by
    unfold err at h
    split at h
    · rename_i hx
      rcases List.mem_cons.1 hi with rfl | h1
      · exact hx
      · exact err_zero h i h1
    · rename_i hx; exact absurd h hx
theorem err_all : ∀ {l : List I}, (∀ i ∈ l, chk i = 0) → err l = 0
  | [], _ => rfl
  | x :: l, h => by
    unfold err
    rw [if_pos (h x (List.mem_cons_self ..))]
    exact err_all fun i hi => h i (List.mem_cons_of_mem _ hi)
theorem err_first : ∀ {l : List I} {k : Nat} {i : I}, l[k]? = some i → chk i ≠ 0 → (∀ j x, j < k → l[j]? = some x → chk x = 0) → err l = chk i
  | [], k, i, h, _, _ => by simp at h
  | x :: l, 0, i, h, hc, _ => by
    simp at h; subst h
    unfold err; rw [if_neg hc]
  | x :: l, k + 1, i, h, hc, ha => by
    unfold err
    rw [if_pos (ha 0 x (by omega) rfl)]
    exact err_first (by simpa using h) hc fun j y hj hy => ha (j + 1) y (by omega) (by simpa using hy)
/-- The word of four bytes. -/
def wd (p q r s : Int) : Int := wrap32 (p * 16777216 + q * 65536 + r * 256 + s)
def i0 : I := ⟨0, 0, 0, 0, 0, 0⟩
/-- The instruction at a place of the bytes. -/
def de (b : List Int) (k : Nat) : I :=
  ⟨b.getD (8 * k) 0, b.getD (8 * k + 1) 0 / 16, b.getD (8 * k + 1) 0 % 16, b.getD (8 * k + 2) 0, b.getD (8 * k + 3) 0, wd (b.getD (8 * k + 4) 0) (b.getD (8 * k + 5) 0) (b.getD (8 * k + 6) 0) (b.getD (8 * k + 7) 0)⟩
def des (b : List Int) (n : Nat) : List I := (List.range n).map (de b)
theorem des_len (b : List Int) (n : Nat) : (des b n).length = n := by simp [des]
theorem des_succ (b : List Int) (n : Nat) : des b (n + 1) = des b n ++ [de b n] := by simp [des, List.range_succ]
/-- What Decode answers. -/
def good (b : List Int) : Bool := decide (b.length % 8 = 0) && decide (b.length ≤ 8192) && (des b (b.length / 8)).all fun i => decide (chk i = 0)
def dno (b : List Int) : Int := if good b = true then 0 else 10
def dl (b : List Int) : List I := if good b = true then des b (b.length / 8) else []
theorem good_not {b : List Int} {k : Nat} (hk : k < b.length / 8) (h : chk (de b k) ≠ 0) : good b = false := by
  cases hg : good b
  · rfl
  · unfold good at hg
    simp only [Bool.and_eq_true, List.all_eq_true] at hg
    have := hg.2 (de b k) (by unfold des; exact List.mem_map.2 ⟨k, by simpa using hk, rfl⟩)
    simp at this
    exact absurd this h
theorem good_yes {b : List Int} (h1 : b.length % 8 = 0) (h2 : b.length ≤ 8192) (h : ∀ k, k < b.length / 8 → chk (de b k) = 0) : good b = true := by
  unfold good
  simp only [Bool.and_eq_true, List.all_eq_true, decide_eq_true_eq]
  refine ⟨⟨h1, h2⟩, fun i hi => ?_⟩
  unfold des at hi
  obtain ⟨k, hk, rfl⟩ := List.mem_map.1 hi
  exact h k (by simpa using hk)
theorem en_getD (i : I) : (en i).getD 0 0 = w8 i.k ∧ (en i).getD 1 0 = w8 (16 * i.a + i.b) ∧ (en i).getD 2 0 = w8 i.c ∧ (en i).getD 3 0 = w8 i.o ∧ (en i).getD 4 0 = w8 (i.m / 16777216) ∧ (en i).getD 5 0 = w8 (i.m / 65536) ∧ (en i).getD 6 0 = w8 (i.m / 256) ∧ (en i).getD 7 0 = w8 i.m := ⟨rfl, rfl, rfl, rfl, rfl, rfl, rfl, rfl⟩
theorem wd_back (m : Int) (h0 : -2147483648 ≤ m) (h1 : m ≤ 2147483647) : wd (w8 (m / 16777216)) (w8 (m / 65536)) (w8 (m / 256)) (w8 m) = m := by
  unfold wd w8 wrap32
  omega
/-- Decoding undoes encoding, one by one. -/
theorem de_flat : ∀ (l : List I), (∀ i ∈ l, V i) → ∀ (k : Nat) (i : I), l[k]? = some i → de (l.flatMap en) k = i
  | [], _, k, i, h => by simp at h
  | x :: l, hv, k + 1, i, h => by
    have := de_flat l (fun y hy => hv y (List.mem_cons_of_mem _ hy)) k i (by simpa using h)
    rw [← this]
    have hs : ∀ j, ((x :: l).flatMap en).getD (8 * (k + 1) + j) 0 = (l.flatMap en).getD (8 * k + j) 0 := fun j => by
      rw [List.flatMap_cons, List.getD_eq_getElem?_getD, List.getD_eq_getElem?_getD, List.getElem?_append_right (by rw [en_len]; omega), en_len]
      congr 2; omega
    unfold de
    have h0 := hs 0
    simp only [Nat.add_zero] at h0
    rw [h0, hs 1, hs 2, hs 3, hs 4, hs 5, hs 6, hs 7]
  | x :: l, hv, 0, i, h => by
    simp at h; subst h
    have hs : ∀ j, j < 8 → ((x :: l).flatMap en).getD j 0 = (en x).getD j 0 := fun j hj => by
      rw [List.flatMap_cons, List.getD_eq_getElem?_getD, List.getD_eq_getElem?_getD, List.getElem?_append_left (by rw [en_len]; omega)]
    unfold de
    simp only [Nat.mul_zero, Nat.zero_add]
    rw [hs 0 (by omega), hs 1 (by omega), hs 2 (by omega), hs 3 (by omega), hs 4 (by omega), hs 5 (by omega), hs 6 (by omega), hs 7 (by omega)]
    obtain ⟨e0, e1, e2, e3, e4, e5, e6, e7⟩ := en_getD x
    rw [e0, e1, e2, e3, e4, e5, e6, e7]
    have v := hv x (List.mem_cons_self ..)
    rw [wd_back x.m v.m0 v.m1]
    obtain ⟨k, a, b, c, o, m⟩ := x
    obtain ⟨k0, k1, a0, a1, b0, b1, c0, c1, o0, o1, m0, m1⟩ := v
    simp only at k0 k1 a0 a1 b0 b1 c0 c1 o0 o1 m0 m1
    simp only [I.mk.injEq]
    unfold w8
    refine ⟨by omega, by omega, by omega, by omega, by omega, trivial⟩
theorem flat_len : ∀ (l : List I), (l.flatMap en).length = 8 * l.length
  | [] => rfl
  | x :: l => by rw [List.flatMap_cons, List.length_append, en_len, flat_len l, List.length_cons]; omega
theorem des_flat (l : List I) (hv : ∀ i ∈ l, V i) : des (l.flatMap en) l.length = l := by
  apply List.ext_getElem?
  intro k
  rcases Nat.lt_or_ge k l.length with h | h
  · have := de_flat l hv k l[k] (List.getElem?_eq_getElem h)
    rw [List.getElem?_eq_getElem h]
    unfold des
    rw [List.getElem?_map, List.getElem?_range h]
    simp [this]
  · rw [List.getElem?_eq_none h, List.getElem?_eq_none (by rw [des_len]; omega)]
theorem en_in (i : I) : ∀ z ∈ en i, 0 ≤ z ∧ z ≤ 255 := by
  intro z hz
  unfold en at hz
  simp only [List.mem_cons, List.not_mem_nil, or_false] at hz
  unfold w8 at hz
  rcases hz with rfl | rfl | rfl | rfl | rfl | rfl | rfl | rfl <;> omega
theorem enb_in (l : List I) : ∀ z ∈ enb l, 0 ≤ z ∧ z ≤ 255 := by
  intro z hz
  unfold enb at hz
  split at hz
  · obtain ⟨i, -, h⟩ := List.mem_flatMap.1 hz
    exact en_in i z h
  · simp at hz
end In
/-! ### In memory -/
def iCells (i : In.I) : List Value := [.int .i64 i.k, .int .i64 i.a, .int .i64 i.b, .int .i64 i.c, .int .i64 i.o, .int .i64 i.m]
def iAgg (i : In.I) : Value := .agg #[.int .i64 i.k, .int .i64 i.a, .int .i64 i.b, .int .i64 i.c, .int .i64 i.o, .int .i64 i.m]
def InsL (w : World) (v : Value) (l : List In.I) : Prop := RowIn 6 w v l.length (l.flatMap iCells)
def BytL (w : World) (v : Value) (l : List Int) : Prop := RowIn 1 w v l.length (l.map (Value.int .u8))
theorem InsL.below {w w' : World} {v : Value} {l : List In.I} (h : InsL w v l) (hb : Below w.heap.size w w') : InsL w' v l := RowIn.below h hb
theorem BytL.below {w w' : World} {v : Value} {l : List Int} (h : BytL w v l) (hb : Below w.heap.size w w') : BytL w' v l := RowIn.below h hb
end Go.Proofs.Ythcjohfngnffpaa

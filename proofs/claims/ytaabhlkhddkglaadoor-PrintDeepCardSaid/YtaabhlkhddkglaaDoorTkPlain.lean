/- Plain lists: the tokens of a text, as a function on lists of bytes, and what is true of it. No program. -/
namespace Go.Proofs.YtaabhlkhddkglaaDoor.Tk

def lowB (c : Int) : Bool := decide (97 ≤ c ∧ c ≤ 122)
def digB (c : Int) : Bool := decide (48 ≤ c ∧ c ≤ 57)
def sepB (c : Int) : Bool := decide (c = 32 ∨ c = 9 ∨ c = 10)
def low (c : UInt8) : Bool := lowB (c.toNat : Int)
def dig (c : UInt8) : Bool := digB (c.toNat : Int)
def sep (c : UInt8) : Bool := sepB (c.toNat : Int)
def bs (s : ByteArray) : List UInt8 := s.data.toList
def mk (l : List UInt8) : ByteArray := ⟨l.toArray⟩

structure Tok where
  kind : Int
  num : Int
  line : Int
  text : List UInt8

/-- How many bytes at the beginning are like a name; f: nothing came before. -/
def ws : Bool → List UInt8 → Nat
  | _, [] => 0
  | f, c :: r => if (low c || (!f && dig c)) = true then 1 + ws false r else 0
def nameB (l : List UInt8) : Bool := decide (l ≠ []) && decide (l.length ≤ 12) && (ws true l == l.length)
def cntD : List UInt8 → Nat
  | [] => 0
  | c :: r => if dig c = true then 1 + cntD r else 0
def val : Int → List UInt8 → Int
  | a, [] => a
  | a, c :: r => val (10 * a + ((c.toNat : Int) - 48)) r
def num (l : List UInt8) : Int := val 0 (l.take (cntD l))
def signs : List (List UInt8) := [[60, 60], [62, 62], [60, 61], [61, 61], [33, 61], [43], [45], [42], [47], [37], [38], [124], [94], [60], [61], [40], [41], [91], [93], [123], [125]]
def isSign (l : List UInt8) : Bool := signs.contains l
def sgn (l : List UInt8) : Nat := if 2 ≤ l.length ∧ isSign (l.take 2) = true then 2 else if isSign (l.take 1) = true then 1 else 0

/-- The token with which a text begins, without its line, and its bytes. -/
def first (l : List UInt8) : Option (Tok × Nat) :=
  match l with
  | [] => none
  | c :: _ =>
    if low c = true then (if ws true l ≤ 12 then some (⟨1, 0, 0, l.take (ws true l)⟩, ws true l) else none)
    else if dig c = true then (if num l ≤ 2147483647 then some (⟨2, num l, 0, []⟩, cntD l) else none)
    else if sgn l = 0 then none else some (⟨3, 0, 0, l.take (sgn l)⟩, sgn l)

def pre (T : List Tok) (r : Except Int (List Tok)) : Except Int (List Tok) :=
  match r with
  | .ok U => .ok (T ++ U)
  | .error n => .error n
def scan : Nat → List UInt8 → Int → Except Int (List Tok)
  | 0, _, _ => .ok []
  | _ + 1, [], _ => .ok []
  | f + 1, c :: r, n =>
    if c.toNat = 10 then scan f r (n + 1)
    else if sep c = true then scan f r n
    else match first (c :: r) with
      | none => .error n
      | some (t, k) => pre [{ t with line := n }] (scan f ((c :: r).drop k) n)
def all (l : List UInt8) : Except Int (List Tok) := scan l.length l 1
def toks (l : List UInt8) : List Tok := if 8192 < l.length then [] else match all l with | .ok T => T | .error _ => []
def ln (l : List UInt8) : Int := if 8192 < l.length then 0 else match all l with | .ok _ => 0 | .error n => n
def er (l : List UInt8) : Int := if 8192 < l.length then 4 else match all l with | .ok _ => 0 | .error _ => 1

/-! ### Small facts -/
theorem pre_nil (r : Except Int (List Tok)) : pre [] r = r := by cases r <;> rfl
theorem pre_pre (A B : List Tok) (r : Except Int (List Tok)) : pre A (pre B r) = pre (A ++ B) r := by
  cases r <;> simp [pre]
theorem drop_at (l : List UInt8) (k : Nat) (h : k < l.length) : l.drop k = l[k] :: l.drop (k + 1) := List.drop_eq_getElem_cons h
theorem ws_le (f : Bool) (l : List UInt8) : ws f l ≤ l.length := by
  induction l generalizing f with
  | nil => simp [ws]
  | cons c r ih =>
    unfold ws
    split
    · have := ih false; simp; omega
    · simp
theorem cntD_le (l : List UInt8) : cntD l ≤ l.length := by
  induction l with
  | nil => simp [cntD]
  | cons c r ih =>
    unfold cntD
    split
    · simp; omega
    · simp
/-- One more byte of a name. -/
theorem ws_step (l : List UInt8) (k : Nat) (f : Bool) (h : k < l.length) (hc : (low l[k] || (!f && dig l[k])) = true) : ws f (l.drop k) = 1 + ws false (l.drop (k + 1)) := by
  rw [drop_at l k h, ws, if_pos hc]
theorem ws_stop (l : List UInt8) (k : Nat) (f : Bool) (h : k < l.length) (hc : (low l[k] || (!f && dig l[k])) = false) : ws f (l.drop k) = 0 := by
  rw [drop_at l k h, ws, if_neg (by simp [hc])]
theorem ws_end (l : List UInt8) (k : Nat) (f : Bool) (h : l.length ≤ k) : ws f (l.drop k) = 0 := by
  rw [List.drop_of_length_le h, ws]
theorem cntD_step (l : List UInt8) (k : Nat) (h : k < l.length) (hc : dig l[k] = true) : cntD (l.drop k) = 1 + cntD (l.drop (k + 1)) := by
  rw [drop_at l k h, cntD, if_pos hc]
theorem cntD_stop (l : List UInt8) (k : Nat) (h : k < l.length) (hc : dig l[k] = false) : cntD (l.drop k) = 0 := by
  rw [drop_at l k h, cntD, if_neg (by simp [hc])]
theorem cntD_end (l : List UInt8) (k : Nat) (h : l.length ≤ k) : cntD (l.drop k) = 0 := by
  rw [List.drop_of_length_le h, cntD]
theorem val_app (a : Int) (x y : List UInt8) : val a (x ++ y) = val (val a x) y := by
  induction x generalizing a with
  | nil => rfl
  | cons c r ih => simp only [List.cons_append, val]; exact ih _
theorem take_more (l : List UInt8) (k : Nat) (h : k < l.length) : l.take (k + 1) = l.take k ++ [l[k]] := by
  rw [List.take_succ_eq_append_getElem h]
theorem val_step (l : List UInt8) (k : Nat) (h : k < l.length) : val 0 (l.take (k + 1)) = 10 * val 0 (l.take k) + ((l[k].toNat : Int) - 48) := by
  rw [take_more l k h, val_app]; rfl
theorem dig_ge {c : UInt8} (h : dig c = true) : 48 ≤ (c.toNat : Int) ∧ (c.toNat : Int) ≤ 57 := by
  simpa [dig, digB] using h
theorem low_ge {c : UInt8} (h : low c = true) : 97 ≤ (c.toNat : Int) ∧ (c.toNat : Int) ≤ 122 := by
  simpa [low, lowB] using h
/-- More digits, no lesser number. -/
theorem val_mono (a : Int) (x : List UInt8) (ha : 0 ≤ a) (hx : ∀ c ∈ x, dig c = true) : a ≤ val a x := by
  induction x generalizing a with
  | nil => exact Int.le_refl _
  | cons c r ih =>
    have h := dig_ge (hx c (by simp))
    have := ih (10 * a + ((c.toNat : Int) - 48)) (by omega) (fun d hd => hx d (by simp [hd]))
    unfold val; omega
theorem digs (l : List UInt8) : ∀ c ∈ l.take (cntD l), dig c = true := by
  induction l with
  | nil => simp [cntD]
  | cons c r ih =>
    intro d hd
    unfold cntD at hd
    split at hd
    · rename_i h
      rw [Nat.add_comm, List.take_succ_cons] at hd
      rcases List.mem_cons.1 hd with rfl | hd
      · exact h
      · exact ih d hd
    · simp at hd
/-- The number so far is no greater than the whole number. -/
theorem num_ge (l : List UInt8) (k : Nat) (hk : k ≤ cntD l) (h0 : 0 ≤ val 0 (l.take k)) : val 0 (l.take k) ≤ num l := by
  have e : l.take (cntD l) = l.take k ++ (l.take (cntD l)).drop k := by
    conv => lhs; rw [← List.take_append_drop k (l.take (cntD l))]
    rw [List.take_take, Nat.min_eq_left hk]
  unfold num
  rw [e, val_app]
  exact val_mono _ _ h0 (fun c hc => digs l c (List.mem_of_mem_drop hc))
theorem num_nonneg (l : List UInt8) : 0 ≤ num l := val_mono 0 _ (Int.le_refl _) (digs l)
theorem sgn_le (l : List UInt8) (h : l ≠ []) : sgn l ≤ l.length := by
  have : 1 ≤ l.length := List.length_pos_iff.2 h
  unfold sgn
  split
  · omega
  · split <;> omega
theorem first_size {l : List UInt8} {t : Tok} {k : Nat} (h : first l = some (t, k)) : 1 ≤ k ∧ k ≤ l.length := by
  unfold first at h
  match l, h with
  | c :: r, h =>
    simp only at h
    split at h
    · rename_i hl
      split at h
      · simp only [Option.some.injEq, Prod.mk.injEq] at h
        rw [← h.2]
        refine ⟨?_, ws_le _ _⟩
        rw [ws, if_pos (by simp [hl])]; omega
      · cases h
    · split at h
      · rename_i hd
        split at h
        · simp only [Option.some.injEq, Prod.mk.injEq] at h
          rw [← h.2]
          refine ⟨?_, cntD_le _⟩
          rw [cntD, if_pos hd]; omega
        · cases h
      · split at h
        · cases h
        · simp only [Option.some.injEq, Prod.mk.injEq] at h
          rw [← h.2]
          exact ⟨by omega, sgn_le _ (by simp)⟩
theorem scan_more (f g : Nat) (l : List UInt8) (n : Int) (hf : l.length ≤ f) (hg : l.length ≤ g) : scan f l n = scan g l n := by
  induction f generalizing g l n with
  | zero =>
    have : l = [] := List.length_eq_zero_iff.1 (by omega)
    subst this
    cases g <;> rfl
  | succ f ih =>
    match l, g, hf, hg with
    | [], 0, _, _ => rfl
    | [], _ + 1, _, _ => rfl
    | c :: r, g + 1, hf, hg =>
      simp only [List.length_cons] at hf hg
      simp only [scan]
      split
      · exact ih g r _ (by omega) (by omega)
      · split
        · exact ih g r _ (by omega) (by omega)
        · split
          · rfl
          · rename_i t k hk
            have := first_size hk
            rw [ih g _ _ (by simp at this ⊢; omega) (by simp at this ⊢; omega)]
/-- The scan by itself: enough fuel. -/
def go (l : List UInt8) (n : Int) : Except Int (List Tok) := scan l.length l n
theorem go_nil (n : Int) : go [] n = .ok [] := rfl
theorem go_line (c : UInt8) (r : List UInt8) (n : Int) (h : c.toNat = 10) : go (c :: r) n = go r (n + 1) := by
  unfold go; simp only [List.length_cons, scan]; rw [if_pos h]
theorem go_sep (c : UInt8) (r : List UInt8) (n : Int) (h : c.toNat ≠ 10) (hs : sep c = true) : go (c :: r) n = go r n := by
  unfold go; simp only [List.length_cons, scan]; rw [if_neg h, if_pos hs]
theorem go_none (c : UInt8) (r : List UInt8) (n : Int) (hs : sep c = false) (hf : first (c :: r) = none) : go (c :: r) n = .error n := by
  have h : c.toNat ≠ 10 := by intro e; simp [sep, sepB, e] at hs
  unfold go; simp only [List.length_cons, scan]; rw [if_neg h, if_neg (by simp [hs]), hf]
theorem go_some (c : UInt8) (r : List UInt8) (n : Int) (t : Tok) (k : Nat) (hs : sep c = false) (hf : first (c :: r) = some (t, k)) :
    go (c :: r) n = pre [{ t with line := n }] (go ((c :: r).drop k) n) := by
  have h : c.toNat ≠ 10 := by intro e; simp [sep, sepB, e] at hs
  have hk := first_size hf
  unfold go; simp only [List.length_cons, scan]; rw [if_neg h, if_neg (by simp [hs]), hf]
  simp only
  rw [scan_more r.length _ ((c :: r).drop k) n (by simp at hk ⊢; omega) (Nat.le_refl _)]

/-! ### What a loop over the text knows behind k bytes: T are the tokens so far, n is the line. -/
def At (l : List UInt8) (k : Nat) (T : List Tok) (n : Int) : Prop := go l 1 = pre T (go (l.drop k) n)
theorem at_start (l : List UInt8) : At l 0 [] 1 := by unfold At; rw [pre_nil, List.drop_zero]
theorem at_line {l : List UInt8} {k : Nat} {T : List Tok} {n : Int} (h : At l k T n) (hk : k < l.length) (hc : l[k].toNat = 10) : At l (k + 1) T (n + 1) := by
  unfold At at *
  rw [h, drop_at l k hk, go_line _ _ _ hc]
theorem at_sep {l : List UInt8} {k : Nat} {T : List Tok} {n : Int} (h : At l k T n) (hk : k < l.length) (hc : l[k].toNat ≠ 10) (hs : sep l[k] = true) : At l (k + 1) T n := by
  unfold At at *
  rw [h, drop_at l k hk, go_sep _ _ _ hc hs]
theorem at_some {l : List UInt8} {k : Nat} {T : List Tok} {n : Int} {t : Tok} {j : Nat} (h : At l k T n) (hk : k < l.length) (hs : sep l[k] = false) (hf : first (l.drop k) = some (t, j)) :
    At l (k + j) (T ++ [{ t with line := n }]) n := by
  unfold At at *
  rw [drop_at l k hk] at hf
  rw [h, drop_at l k hk, go_some _ _ _ t j hs hf, pre_pre, ← drop_at l k hk, List.drop_drop]
theorem at_none {l : List UInt8} {k : Nat} {T : List Tok} {n : Int} (h : At l k T n) (hk : k < l.length) (hs : sep l[k] = false) (hf : first (l.drop k) = none) : go l 1 = .error n := by
  unfold At at *
  rw [drop_at l k hk] at hf
  rw [h, drop_at l k hk, go_none _ _ _ hs hf]; rfl
theorem at_end {l : List UInt8} {k : Nat} {T : List Tok} {n : Int} (h : At l k T n) (hk : l.length ≤ k) : go l 1 = .ok T := by
  unfold At at h
  rw [h, List.drop_of_length_le hk, go_nil]; simp [pre]
theorem out_ok {l : List UInt8} {T : List Tok} (hl : l.length ≤ 8192) (h : go l 1 = .ok T) : toks l = T ∧ ln l = 0 ∧ er l = 0 := by
  have h : all l = .ok T := h
  have hn : ¬ 8192 < l.length := by omega
  simp [toks, ln, er, hn, h]
theorem out_no {l : List UInt8} {n : Int} (hl : l.length ≤ 8192) (h : go l 1 = .error n) : toks l = [] ∧ ln l = n ∧ er l = 1 := by
  have h : all l = .error n := h
  have hn : ¬ 8192 < l.length := by omega
  simp [toks, ln, er, hn, h]
theorem out_long {l : List UInt8} (hl : 8192 < l.length) : toks l = [] ∧ ln l = 0 ∧ er l = 4 := by
  simp [toks, ln, er, hl]
/-- No more tokens than bytes, and lines no greater than bytes. -/
theorem count (f : Nat) (l : List UInt8) (n : Int) (T : List Tok) (h : scan f l n = .ok T) : T.length ≤ l.length := by
  induction f generalizing l n T with
  | zero => simp only [scan, Except.ok.injEq] at h; subst h; simp
  | succ f ih =>
    match l, h with
    | [], h => simp only [scan, Except.ok.injEq] at h; subst h; simp
    | c :: r, h =>
      simp only [scan] at h
      split at h
      · have := ih _ _ _ h; simp; omega
      · split at h
        · have := ih _ _ _ h; simp; omega
        · split at h
          · cases h
          · rename_i t k hk
            have h1 := first_size hk
            cases hs : scan f ((c :: r).drop k) n with
            | error m => rw [hs] at h; simp [pre] at h
            | ok U =>
              rw [hs] at h
              simp only [pre, Except.ok.injEq] at h
              subst h
              have := ih _ _ _ hs
              simp at this h1 ⊢; omega
end Go.Proofs.YtaabhlkhddkglaaDoor.Tk

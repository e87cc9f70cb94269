/- Plain lists: the tokens of a text, as a function on lists of bytes, and what is true of it. No program. The functions of package token and of its specification that look at one byte, or at names: what they answer. No condition but that a string is no longer than any string. Name of package token and of its specification, and the specification's value: what they answer. -/
import Derived.Test.YtbppfhlpielpcaaDoorRows
import Derived.WalkKit
import Derived.ProofKit
import Derived.OpenShut
import Derived.BigQuiet
import Derived.Deep.QuietTactic
import Derived.Lib.Hide
import Derived.Lib.Strings
namespace Go.Proofs.YtbppfhlpielpcaaDoor.Tk

def lowB (c : Int) : Bool := decide (97 ≤ c ∧ c ≤ 122)
def digB (c : Int) : Bool := decide (48 ≤ c ∧ c ≤ 57)
def sepB (c : Int) : Bool := decide (c = 32 ∨ c = 9 ∨ c = 10)
def low (c : UInt8) : Bool := lowB (c.toNat : Int)
def dig (c : UInt8) : Bool := digB (c.toNat : Int)
def sep (c : UInt8) : Bool := sepB (c.toNat : Int)
def bs (s : ByteArray) : List UInt8 := s.data.toList
def mk (l : List UInt8) : ByteArray := ⟨l.toArray⟩

structure Tok where
  kind : Int
  num : Int
  line : Int
  text : List UInt8

/-- How many bytes at the beginning are like a name; f: nothing came before. -/
def ws : Bool → List UInt8 → Nat
  | _, [] => 0
  | f, c :: r => if (low c || (!f && dig c)) = true then 1 + ws false r else 0
def nameB (l : List UInt8) : Bool := decide (l ≠ []) && decide (l.length ≤ 12) && (ws true l == l.length)
def cntD : List UInt8 → Nat
  | [] => 0
  | c :: r => if dig c = true then 1 + cntD r else 0
def val : Int → List UInt8 → Int
  | a, [] => a
  | a, c :: r => val (10 * a + ((c.toNat : Int) - 48)) r
def num (l : List UInt8) : Int := val 0 (l.take (cntD l))
def signs : List (List UInt8) := [[60, 60], [62, 62], [60, 61], [61, 61], [33, 61], [43], [45], [42], [47], [37], [38], [124], [94], [60], [61], [40], [41], [91], [93], [123], [125]]
def isSign (l : List UInt8) : Bool := signs.contains l
def sgn (l : List UInt8) : Nat := if 2 ≤ l.length ∧ isSign (l.take 2) = true then 2 else if isSign (l.take 1) = true then 1 else 0

/-- The token with which a text begins, without its line, and its bytes. -/
def first (l : List UInt8) : Option (Tok × Nat) :=
  match l with
  | [] => none
  | c :: _ =>
    if low c = true then (if ws true l ≤ 12 then some (⟨1, 0, 0, l.take (ws true l)⟩, ws true l) else none)
    else if dig c = true then (if num l ≤ 2147483647 then some (⟨2, num l, 0, []⟩, cntD l) else none)
    else if sgn l = 0 then none else some (⟨3, 0, 0, l.take (sgn l)⟩, sgn l)

def pre (T : List Tok) (r : Except Int (List Tok)) : Except Int (List Tok) :=
  match r with
  | .ok U => .ok (T ++ U)
  | .error n => .error n
def scan : Nat → List UInt8 → Int → Except Int (List Tok)
  | 0, _, _ => .ok []
  | _ + 1, [], _ => .ok []
  | f + 1, c :: r, n =>
    if c.toNat = 10 then scan f r (n + 1)
    else if sep c = true then scan f r n
    else match first (c :: r) with
      | none => .error n
      | some (t, k) => pre [{ t with line := n }] (scan f ((c :: r).drop k) n)
def all (l : List UInt8) : Except Int (List Tok) := scan l.length l 1
def toks (l : List UInt8) : List Tok := if 8192 < l.length then [] else match all l with | .ok T => T | .error _ => []
def ln (l : List UInt8) : Int := if 8192 < l.length then 0 else match all l with | .ok _ => 0 | .error n => n
def er (l : List UInt8) : Int := if 8192 < l.length then 4 else match all l with | .ok _ => 0 | .error _ => 1

/-! ### Small facts -/
theorem pre_nil (r : Except Int (List Tok)) : pre [] r = r := by cases r <;> rfl
theorem pre_pre (A B : List Tok) (r : Except Int (List Tok)) : pre A (pre B r) = pre (A ++ B) r := by
  cases r <;> simp [pre]
theorem drop_at (l : List UInt8) (k : Nat) (h : k < l.length) : l.drop k = l[k] :: l.drop (k + 1) := List.drop_eq_getElem_cons h
theorem ws_le (f : Bool) (l : List UInt8) : ws f l ≤ l.length := by
  induction l generalizing f with
  | nil => simp [ws]
  | cons c r ih =>
    unfold ws
    split
    · have := ih false; simp; omega
    · simp
theorem cntD_le (l : List UInt8) : cntD l ≤ l.length := by
  induction l with
  | nil => simp [cntD]
  | cons c r ih =>
    unfold cntD
    split
    · simp; omega
    · simp
/-- One more byte of a name. -/
theorem ws_step (l : List UInt8) (k : Nat) (f : Bool) (h : k < l.length) (hc : (low l[k] || (!f && dig l[k])) = true) : ws f (l.drop k) = 1 + ws false (l.drop (k + 1)) := by
  rw [drop_at l k h, ws, if_pos hc]
theorem ws_stop (l : List UInt8) (k : Nat) (f : Bool) (h : k < l.length) (hc : (low l[k] || (!f && dig l[k])) = false) : ws f (l.drop k) = 0 := by
  rw [drop_at l k h, ws, if_neg (by simp [hc])]
theorem ws_end (l : List UInt8) (k : Nat) (f : Bool) (h : l.length ≤ k) : ws f (l.drop k) = 0 := by
  rw [List.drop_of_length_le h, ws]
theorem cntD_step (l : List UInt8) (k : Nat) (h : k < l.length) (hc : dig l[k] = true) : cntD (l.drop k) = 1 + cntD (l.drop (k + 1)) := by
  rw [drop_at l k h, cntD, if_pos hc]
theorem cntD_stop (l : List UInt8) (k : Nat) (h : k < l.length) (hc : dig l[k] = false) : cntD (l.drop k) = 0 := by
  rw [drop_at l k h, cntD, if_neg (by simp [hc])]
theorem cntD_end (l : List UInt8) (k : Nat) (h : l.length ≤ k) : cntD (l.drop k) = 0 := by
  rw [List.drop_of_length_le h, cntD]
theorem val_app (a : Int) (x y : List UInt8) : val a (x ++ y) = val (val a x) y := by
  induction x generalizing a with
  | nil => rfl
  | cons c r ih => simp only [List.cons_append, val]; exact ih _
theorem take_more (l : List UInt8) (k : Nat) (h : k < l.length) : l.take (k + 1) = l.take k ++ [l[k]] := by
  rw [List.take_succ_eq_append_getElem h]
theorem val_step (l : List UInt8) (k : Nat) (h : k < l.length) : val 0 (l.take (k + 1)) = 10 * val 0 (l.take k) + ((l[k].toNat : Int) - 48) := by
  rw [take_more l k h, val_app]; rfl
theorem dig_ge {c : UInt8} (h : dig c = true) : 48 ≤ (c.toNat : Int) ∧ (c.toNat : Int) ≤ 57 := by
  simpa [dig, digB] using h
theorem low_ge {c : UInt8} (h : low c = true) : 97 ≤ (c.toNat : Int) ∧ (c.toNat : Int) ≤ 122 := by
  simpa [low, lowB] using h
/-- More digits, no lesser number. -/
theorem val_mono (a : Int) (x : List UInt8) (ha : 0 ≤ a) (hx : ∀ c ∈ x, dig c = true) : a ≤ val a x := by
  induction x generalizing a with
  | nil => exact Int.le_refl _
  | cons c r ih =>
    have h := dig_ge (hx c (by simp))
    have := ih (10 * a + ((c.toNat : Int) - 48)) (by omega) (fun d hd => hx d (by simp [hd]))
    unfold val; omega
theorem digs (l : List UInt8) : ∀ c ∈ l.take (cntD l), dig c = true := by
  induction l with
  | nil => simp [cntD]
  | cons c r ih =>
    intro d hd
    unfold cntD at hd
    split at hd
    · rename_i h
      rw [Nat.add_comm, List.take_succ_cons] at hd
      rcases List.mem_cons.1 hd with rfl | hd
      · exact h
      · exact ih d hd
    · simp at hd
/-- The number so far is no greater than the whole number. -/
theorem num_ge (l : List UInt8) (k : Nat) (hk : k ≤ cntD l) (h0 : 0 ≤ val 0 (l.take k)) : val 0 (l.take k) ≤ num l := by
  have e : l.take (cntD l) = l.take k ++ (l.take (cntD l)).drop k := by
    conv => lhs; rw [← List.take_append_drop k (l.take (cntD l))]
    rw [List.take_take, Nat.min_eq_left hk]
  unfold num
  rw [e, val_app]
  exact val_mono _ _ h0 (fun c hc => digs l c (List.mem_of_mem_drop hc))
theorem num_nonneg (l : List UInt8) : 0 ≤ num l := val_mono 0 _ (Int.le_refl _) (digs l)
theorem sgn_le (l : List UInt8) (h : l ≠ []) : sgn l ≤ l.length := by
  have : 1 ≤ l.length := List.length_pos_iff.2 h
  unfold sgn
  split
  · omega
  · split <;> omega
theorem first_size {l : List UInt8} {t : Tok} {k : Nat} (h : first l = some (t, k)) : 1 ≤ k ∧ k ≤ l.length := by
  unfold first at h
  match l, h with
  | c :: r, h =>
    simp only at h
    split at h
    · rename_i hl
      split at h
      · simp only [Option.some.injEq, Prod.mk.injEq] at h
        rw [← h.2]
        refine ⟨?_, ws_le _ _⟩
        rw [ws, if_pos (by simp [hl])]; omega
      · cases h
    · split at h
      · rename_i hd
        split at h
        · simp only [Option.some.injEq, Prod.mk.injEq] at h
          rw [← h.2]
          refine ⟨?_, cntD_le _⟩
          rw [cntD, if_pos hd]; omega
        · cases h
      · split at h
        · cases h
        · simp only [Option.some.injEq, Prod.mk.injEq] at h
          rw [← h.2]
          exact ⟨by omega, sgn_le _ (by simp)⟩
theorem scan_more (f g : Nat) (l : List UInt8) (n : Int) (hf : l.length ≤ f) (hg : l.length ≤ g) : scan f l n = scan g l n := by
  induction f generalizing g l n with
  | zero =>
    have : l = [] := List.length_eq_zero_iff.1 (by omega)
    subst this
    cases g <;> rfl
  | succ f ih =>
    match l, g, hf, hg with
    | [], 0, _, _ => rfl
    | [], _ + 1, _, _ => rfl
    | c :: r, g + 1, hf, hg =>
      simp only [List.length_cons] at hf hg
      simp only [scan]
      split
      · exact ih g r _ (by omega) (by omega)
      · split
        · exact ih g r _ (by omega) (by omega)
        · split
          · rfl
          · rename_i t k hk
            have := first_size hk
            rw [ih g _ _ (by simp at this ⊢; omega) (by simp at this ⊢; omega)]
/-- The scan by itself: enough fuel. -/
def go (l : List UInt8) (n : Int) : Except Int (List Tok) := scan l.length l n
theorem go_nil (n : Int) : go [] n = .ok [] := rfl
theorem go_line (c : UInt8) (r : List UInt8) (n : Int) (h : c.toNat = 10) : go (c :: r) n = go r (n + 1) := by
  unfold go; simp only [List.length_cons, scan]; rw [if_pos h]
theorem go_sep (c : UInt8) (r : List UInt8) (n : Int) (h : c.toNat ≠ 10) (hs : sep c = true) : go (c :: r) n = go r n := by
  unfold go; simp only [List.length_cons, scan]; rw [if_neg h, if_pos hs]
theorem go_none (c : UInt8) (r : List UInt8) (n : Int) (hs : sep c = false) (hf : first (c :: r) = none) : go (c :: r) n = .error n := by
  have h : c.toNat ≠ 10 := by intro e; simp [sep, sepB, e] at hs
  unfold go; simp only [List.length_cons, scan]; rw [if_neg h, if_neg (by simp [hs]), hf]
theorem go_some (c : UInt8) (r : List UInt8) (n : Int) (t : Tok) (k : Nat) (hs : sep c = false) (hf : first (c :: r) = some (t, k)) :
    go (c :: r) n = pre [{ t with line := n }] (go ((c :: r).drop k) n) := by
  have h : c.toNat ≠ 10 := by intro e; simp [sep, sepB, e] at hs
  have hk := first_size hf
  unfold go; simp only [List.length_cons, scan]; rw [if_neg h, if_neg (by simp [hs]), hf]
  simp only
  rw [scan_more r.length _ ((c :: r).drop k) n (by simp at hk ⊢; omega) (Nat.le_refl _)]

/-! ### What a loop over the text knows behind k bytes: T are the tokens so far, n is the line. -/
def At (l : List UInt8) (k : Nat) (T : List Tok) (n : Int) : Prop := go l 1 = pre T (go (l.drop k) n)
theorem at_start (l : List UInt8) : At l 0 [] 1 := by unfold At; rw [pre_nil, List.drop_zero]
theorem at_line {l : List UInt8} {k : Nat} {T : List Tok} {n : Int} (h : At l k T n) (hk : k < l.length) (hc : l[k].toNat = 10) : At l (k + 1) T (n + 1) := by
  unfold At at *
  rw [h, drop_at l k hk, go_line _ _ _ hc]
theorem at_sep {l : List UInt8} {k : Nat} {T : List Tok} {n : Int} (h : At l k T n) (hk : k < l.length) (hc : l[k].toNat ≠ 10) (hs : sep l[k] = true) : At l (k + 1) T n := by
  unfold At at *
  rw [h, drop_at l k hk, go_sep _ _ _ hc hs]
theorem at_some {l : List UInt8} {k : Nat} {T : List Tok} {n : Int} {t : Tok} {j : Nat} (h : At l k T n) (hk : k < l.length) (hs : sep l[k] = false) (hf : first (l.drop k) = some (t, j)) :
    At l (k + j) (T ++ [{ t with line := n }]) n := by
  unfold At at *
  rw [drop_at l k hk] at hf
  rw [h, drop_at l k hk, go_some _ _ _ t j hs hf, pre_pre, ← drop_at l k hk, List.drop_drop]
theorem at_none {l : List UInt8} {k : Nat} {T : List Tok} {n : Int} (h : At l k T n) (hk : k < l.length) (hs : sep l[k] = false) (hf : first (l.drop k) = none) : go l 1 = .error n := by
  unfold At at *
  rw [drop_at l k hk] at hf
  rw [h, drop_at l k hk, go_none _ _ _ hs hf]; rfl
theorem at_end {l : List UInt8} {k : Nat} {T : List Tok} {n : Int} (h : At l k T n) (hk : l.length ≤ k) : go l 1 = .ok T := by
  unfold At at h
  rw [h, List.drop_of_length_le hk, go_nil]; simp [pre]
theorem out_ok {l : List UInt8} {T : List Tok} (hl : l.length ≤ 8192) (h : go l 1 = .ok T) : toks l = T ∧ ln l = 0 ∧ er l = 0 := by
  have h : all l = .ok T := h
  have hn : ¬ 8192 < l.length := by omega
  simp [toks, ln, er, hn, h]
theorem out_no {l : List UInt8} {n : Int} (hl : l.length ≤ 8192) (h : go l 1 = .error n) : toks l = [] ∧ ln l = n ∧ er l = 1 := by
  have h : all l = .error n := h
  have hn : ¬ 8192 < l.length := by omega
  simp [toks, ln, er, hn, h]
theorem out_long {l : List UInt8} (hl : 8192 < l.length) : toks l = [] ∧ ln l = 0 ∧ er l = 4 := by
  simp [toks, ln, er, hl]
/-- No more tokens than bytes, and lines no greater than bytes. -/
theorem count (f : Nat) (l : List UInt8) (n : Int) (T : List Tok) (h : scan f l n = .ok T) : T.length ≤ l.length := by
  induction f generalizing l n T with
  | zero => simp only [scan, Except.ok.injEq] at h; subst h; simp
  | succ f ih =>
    match l, h with
    | [], h => simp only [scan, Except.ok.injEq] at h; subst h; simp
    | c :: r, h =>
      simp only [scan] at h
      split at h
      · have := ih _ _ _ h; simp; omega
      · split at h
        · have := ih _ _ _ h; simp; omega
        · split at h
          · cases h
          · rename_i t k hk
            have h1 := first_size hk
            cases hs : scan f ((c :: r).drop k) n with
            | error m => rw [hs] at h; simp [pre] at h
            | ok U =>
              rw [hs] at h
              simp only [pre, Except.ok.injEq] at h
              subst h
              have := ih _ _ _ hs
              simp at this h1 ⊢; omega
end Go.Proofs.YtbppfhlpielpcaaDoor.Tk
namespace Go.Proofs.YtbppfhlpielpcaaDoor
open Go.RowKit Tk
set_option linter.unusedVariables false
theorem ret_int {k : IntKind} {a b : Int} (h : a = b) : Ending.returned (.int k a) = .returned (.int k b) := by rw [h]
theorem ret_bool {a b : Bool} (h : a = b) : Ending.returned (.bool a) = .returned (.bool b) := by rw [h]

theorem letter_any (c : Int) (b : Bool) (h : lowB c = b) (w : World) : Calls Tryd.prog 32 #[.int .u8 c] w fun e w' => e = .returned (.bool b) ∧ w = w' := by
  subst h
  by_cases h1 : 97 ≤ c <;> by_cases h2 : c ≤ 122
  all_goals
    go_enter Tryd.func32, Tryd.ntmps32
    go_wp2
    go_ret
    simp [lowB, h1, h2]
theorem digit_any (c : Int) (b : Bool) (h : digB c = b) (w : World) : Calls Tryd.prog 34 #[.int .u8 c] w fun e w' => e = .returned (.bool b) ∧ w = w' := by
  subst h
  by_cases h1 : 48 ≤ c <;> by_cases h2 : c ≤ 57
  all_goals
    go_enter Tryd.func34, Tryd.ntmps34
    go_wp2
    go_ret
    simp [digB, h1, h2]
theorem rletter_any (c : Int) (b : Bool) (h : lowB c = b) (w : World) : Calls Tryd.prog 20 #[.int .u8 c] w fun e w' => e = .returned (.bool b) ∧ w = w' := by
  subst h
  by_cases h1 : 97 ≤ c <;> by_cases h2 : c ≤ 122
  all_goals
    go_enter Tryd.func20, Tryd.ntmps20
    go_wp2
    go_ret
    simp [lowB, h1, h2]
theorem rdigit_any (c : Int) (b : Bool) (h : digB c = b) (w : World) : Calls Tryd.prog 21 #[.int .u8 c] w fun e w' => e = .returned (.bool b) ∧ w = w' := by
  subst h
  by_cases h1 : 48 ≤ c <;> by_cases h2 : c ≤ 57
  all_goals
    go_enter Tryd.func21, Tryd.ntmps21
    go_wp2
    go_ret
    simp [digB, h1, h2]
theorem sep_any (c : Int) (b : Bool) (h : sepB c = b) (w : World) : Calls Tryd.prog 18 #[.int .u8 c] w fun e w' => e = .returned (.bool b) ∧ w = w' := by
  subst h
  by_cases h1 : c = 32
  · subst h1
    go_enter Tryd.func18, Tryd.ntmps18
    go_wp2
    go_ret
    simp [sepB]
  have b1 : (c == 32) = false := by simp [h1]
  by_cases h2 : c = 9
  · subst h2
    go_enter Tryd.func18, Tryd.ntmps18
    go_wp2
    go_ret
    simp [sepB]
  have b2 : (c == 9) = false := by simp [h2]
  by_cases h3 : c = 10
  · subst h3
    go_enter Tryd.func18, Tryd.ntmps18
    go_wp2
    go_ret
    simp [sepB]
  have b3 : (c == 10) = false := by simp [h3]
  have hf : sepB c = false := by simp [sepB, h1, h2, h3]
  have hF := Lib.hid hf
  clear hf h1 h2 h3
  go_enter Tryd.func18, Tryd.ntmps18
  go_wp2
  go_ret
  rw [hF.out]
  simp

theorem bs_at (s : ByteArray) (k : Nat) (h : k < s.size) : (bs s)[k]'(by unfold bs; simpa using h) = s[k] := rfl
theorem bs_len (s : ByteArray) : (bs s).length = s.size := by unfold bs; simp
set_option maxHeartbeats 400000 in
theorem wordSize_any (s : ByteArray) (hs : s.size ≤ maxLen) (w : World) :
    Calls Tryd.prog 24 #[.string s] w fun e w' => e = .returned (.int .i64 (ws true (bs s))) ∧ w = w' := by
  unfold maxLen at hs
  have hl := bs_len s
  have HL := Lib.hid hl
  clear hl
  go_enter Tryd.func24, Tryd.ntmps24
  go_wp2
  go_loop [3] (fun i => ∃ k : Nat, k ≤ s.size ∧ i = .int .i64 k ∧ Hid (ws true (bs s) = k + ws (k == 0) ((bs s).drop k))) (fun i => s.size - (intOf i).toNat)
  case atStart => exact ⟨0, Nat.zero_le _, rfl, Lib.hid (by simp)⟩
  case round =>
    obtain ⟨k, hk, rfl, hw⟩ := hrel
    by_cases hlt : k < s.size
    · have hlt' : k < (bs s).length := by rw [HL.out]; exact hlt
      cases hlo : lowB (s[k].toNat : Int)
      · have HLo := Lib.hid hlo
        clear hlo
        by_cases h0 : k = 0
        · subst h0
          have hfin : ws true (bs s) = 0 := by
            rw [hw.out]
            have lo : low ((bs s)[0]'hlt') = false := HLo.out
            rw [ws_stop (bs s) 0 _ hlt' (by simp [lo])]
          have HF := Lib.hid hfin
          clear hfin hw
          go_wp2_with (first | (go_at_call 32; refine (letter_any _ false HLo.out _).mono ?_; rintro e w' ⟨rfl, rfl⟩))
          go_ret
          exact ⟨by rw [HF.out]; rfl, rfl⟩
        · have hp : 0 < k := by omega
          cases hdi : digB (s[k].toNat : Int)
          · have HDi := Lib.hid hdi
            clear hdi
            have hfin : ws true (bs s) = k := by
              have lo : low ((bs s)[k]'hlt') = false := HLo.out
              have di : dig ((bs s)[k]'hlt') = false := HDi.out
              rw [hw.out, ws_stop (bs s) k _ hlt' (by simp [lo, di])]; rfl
            have HF := Lib.hid hfin
            clear hfin hw
            go_wp2_with (first | (go_at_call 32; refine (letter_any _ false HLo.out _).mono ?_; rintro e w' ⟨rfl, rfl⟩) | (go_at_call 34; refine (digit_any _ false HDi.out _).mono ?_; rintro e w' ⟨rfl, rfl⟩))
            go_ret
            exact ⟨ret_int (by rw [HF.out]), rfl⟩
          · have HDi := Lib.hid hdi
            clear hdi
            have hnext : ws true (bs s) = (k + 1 : Nat) + ws ((k + 1) == 0) ((bs s).drop (k + 1)) := by
              have lo : low ((bs s)[k]'hlt') = false := HLo.out
              have di : dig ((bs s)[k]'hlt') = true := HDi.out
              rw [hw.out, ws_step (bs s) k _ hlt' (by simp [di]; omega)]; simp; omega
            have HN := Lib.hid hnext
            clear hnext hw h0
            go_wp2_with (first | (go_at_call 32; refine (letter_any _ false HLo.out _).mono ?_; rintro e w' ⟨rfl, rfl⟩) | (go_at_call 34; refine (digit_any _ true HDi.out _).mono ?_; rintro e w' ⟨rfl, rfl⟩))
            go_round
            case rel => exact ⟨k + 1, by omega, by go_num, HN⟩
            case measure => simp [intOf]; omega
      · have HLo := Lib.hid hlo
        clear hlo
        have hnext : ws true (bs s) = (k + 1 : Nat) + ws ((k + 1) == 0) ((bs s).drop (k + 1)) := by
          have lo : low ((bs s)[k]'hlt') = true := HLo.out
          rw [hw.out, ws_step (bs s) k _ hlt' (by simp [lo])]; simp; omega
        have HN := Lib.hid hnext
        clear hnext hw
        go_wp2_with (first | (go_at_call 32; refine (letter_any _ true HLo.out _).mono ?_; rintro e w' ⟨rfl, rfl⟩))
        go_round
        case rel => exact ⟨k + 1, by omega, by go_num, HN⟩
        case measure => simp [intOf]; omega
    · have hfin : ws true (bs s) = k := by
        rw [hw.out, ws_end _ _ _ (by rw [HL.out]; omega)]; rfl
      have HF := Lib.hid hfin
      clear hfin hw
      go_wp2
      go_ret
      exact ⟨ret_int (by rw [HF.out]), rfl⟩
end Go.Proofs.YtbppfhlpielpcaaDoor
namespace Go.Proofs.YtbppfhlpielpcaaDoor
open Go.RowKit Tk
set_option linter.unusedVariables false

theorem bs_nil {s : ByteArray} (h : s.size = 0) : bs s = [] := List.eq_nil_of_length_eq_zero (by rw [bs_len]; exact h)
theorem nameB_true (s : ByteArray) (h1 : 0 < s.size) (h2 : s.size ≤ 12) : nameB (bs s) = (ws true (bs s) == s.size) := by
  have hne : bs s ≠ [] := fun e => by have := bs_len s; rw [e] at this; simp at this; omega
  simp [nameB, hne, bs_len, h2]
theorem nameB_long (s : ByteArray) (h2 : 12 < s.size) : nameB (bs s) = false := by
  have : ¬ (s.size ≤ 12) := by omega
  simp [nameB, bs_len, this]
theorem nameB_empty (s : ByteArray) (h2 : s.size = 0) : nameB (bs s) = false := by
  simp [nameB, bs_nil h2]
set_option maxHeartbeats 400000 in
theorem name_any (s : ByteArray) (hs : s.size ≤ maxLen) (w : World) :
    Calls Tryd.prog 13 #[.string s] w fun e w' => e = .returned (.bool (nameB (bs s))) ∧ w = w' := by
  by_cases h0 : s.size = 0
  · have hsn : s = ⟨#[]⟩ := ByteArray.ext (Array.eq_empty_of_size_eq_zero h0)
    subst hsn
    go_enter Tryd.func13, Tryd.ntmps13
    go_wp2
    go_ret
    exact ⟨rfl, rfl⟩
  · have hp : 0 < s.size := by omega
    have e2 : s.toList.isEmpty = false := by
      cases hq : s.toList with
      | nil => rw [Lib.toList_data] at hq; have := bs_len s; unfold bs at this; rw [hq] at this; simp at this; omega
      | cons a b => rfl
    by_cases hl : s.size ≤ 12
    · have hN := Lib.hid (nameB_true s hp hl)
      have hW := Lib.hid (wordSize_any s hs)
      have hs' := hs
      unfold maxLen at hs'
      clear h0
      go_enter Tryd.func13, Tryd.ntmps13
      go_wp2_with (go_at_call 24; refine (hW.out _).mono ?_; rintro e w' ⟨rfl, rfl⟩)
      go_ret
      exact ⟨by rw [hN.out]; apply ret_bool; first | rfl | (rw [Bool.eq_iff_iff]; simp; omega), rfl⟩
    · have hN := Lib.hid (nameB_long s (by omega))
      have hl' : 12 < s.size := by omega
      go_enter Tryd.func13, Tryd.ntmps13
      go_wp2
      go_ret
      exact ⟨by rw [hN.out]; rfl, rfl⟩

/-- All bytes from k on are letters or digits. -/
def okW (l : List UInt8) (k : Nat) : Bool := (l.drop k).all fun c => low c || dig c
theorem okW_step (l : List UInt8) (k : Nat) (h : k < l.length) : okW l k = ((low l[k] || dig l[k]) && okW l (k + 1)) := by
  unfold okW; rw [drop_at l k h]; rfl
theorem okW_end (l : List UInt8) (k : Nat) (h : l.length ≤ k) : okW l k = true := by
  unfold okW; rw [List.drop_of_length_le h]; rfl
theorem ws_all (f : Bool) (l : List UInt8) (hf : f = false) : (ws f l == l.length) = l.all fun c => low c || dig c := by
  subst hf
  induction l with
  | nil => rfl
  | cons c r ih =>
    rw [ws]
    by_cases h : (low c || dig c) = true
    · rw [if_pos (by simpa using h), List.all_cons, h, Bool.true_and, ← ih, Bool.eq_iff_iff]; simp; omega
    · rw [if_neg (by simpa using h), List.all_cons]
      have : (low c || dig c) = false := by simpa using h
      rw [this]; simp
theorem nameB_ok (l : List UInt8) (h1 : 0 < l.length) (h2 : l.length ≤ 12) (hl : low l[0] = true) : nameB l = okW l 0 := by
  match l, h1, hl with
  | c :: r, _, hl =>
    have hl : low c = true := hl
    have := ws_all false r rfl
    unfold nameB okW
    rw [ws, if_pos (by simp [hl])]
    rw [List.drop_zero, List.all_cons, hl, ← this]
    have : (c :: r).length ≤ 12 := h2
    rw [Bool.eq_iff_iff]
    simp at this ⊢; omega
theorem nameB_no (l : List UInt8) (h1 : 0 < l.length) (hl : low l[0] = false) : nameB l = false := by
  match l, h1, hl with
  | c :: r, _, hl =>
    have hl : low c = false := hl
    unfold nameB
    rw [ws, if_neg (by simp [hl])]
    simp
set_option maxHeartbeats 400000 in
theorem rname_any (s : ByteArray) (hs : s.size ≤ maxLen) (w : World) :
    Calls Tryd.prog 50 #[.string s] w fun e w' => e = .returned (.bool (nameB (bs s))) ∧ w = w' := by
  unfold maxLen at hs
  have HL := Lib.hid (bs_len s)
  by_cases h0 : s.size < 1
  · have hN := Lib.hid (nameB_empty s (by omega))
    go_enter Tryd.func50, Tryd.ntmps50
    go_wp2
    go_ret
    exact ⟨by rw [hN.out]; rfl, rfl⟩
  by_cases h12 : 12 < s.size
  · have hN := Lib.hid (nameB_long s h12)
    go_enter Tryd.func50, Tryd.ntmps50
    go_wp2
    go_ret
    exact ⟨by rw [hN.out]; rfl, rfl⟩
  have hp : 0 < s.size := by omega
  have h12' : s.size ≤ 12 := by omega
  clear h0 h12
  have hp' : 0 < (bs s).length := by rw [HL.out]; exact hp
  cases hlo : lowB (s[0].toNat : Int)
  · have HLo := Lib.hid hlo
    clear hlo
    have hN := Lib.hid (nameB_no (bs s) hp' HLo.out)
    go_enter Tryd.func50, Tryd.ntmps50
    go_wp2_with (go_at_call 20; refine (rletter_any _ false HLo.out _).mono ?_; rintro e w' ⟨rfl, rfl⟩)
    go_ret
    exact ⟨by rw [hN.out]; rfl, rfl⟩
  have HLo := Lib.hid hlo
  clear hlo
  have hN := Lib.hid (nameB_ok (bs s) hp' (by rw [HL.out]; exact h12') HLo.out)
  go_enter Tryd.func50, Tryd.ntmps50
  go_wp2_with (go_at_call 20; refine (rletter_any _ true HLo.out _).mono ?_; rintro e w' ⟨rfl, rfl⟩)
  go_loop [3] (fun i => ∃ k : Nat, k ≤ s.size ∧ i = .int .i64 k ∧ Hid (nameB (bs s) = okW (bs s) k)) (fun i => s.size - (intOf i).toNat)
  case atStart => exact ⟨0, Nat.zero_le _, rfl, hN⟩
  case round =>
    clear hN HLo
    obtain ⟨k, hk, rfl, hw⟩ := hrel
    by_cases hlt : k < s.size
    · have hlt' : k < (bs s).length := by rw [HL.out]; exact hlt
      have hst := Lib.hid (okW_step (bs s) k hlt')
      cases hlo : lowB (s[k].toNat : Int)
      · have HLo := Lib.hid hlo
        clear hlo
        cases hdi : digB (s[k].toNat : Int)
        · have HDi := Lib.hid hdi
          clear hdi
          have hfin : nameB (bs s) = false := by
            have lo : low ((bs s)[k]'hlt') = false := HLo.out
            have di : dig ((bs s)[k]'hlt') = false := HDi.out
            rw [hw.out, hst.out, lo, di]; rfl
          have HF := Lib.hid hfin
          clear hfin hw hst
          go_wp2_with (first | (go_at_call 20; refine (rletter_any _ false HLo.out _).mono ?_; rintro e w' ⟨rfl, rfl⟩) | (go_at_call 21; refine (rdigit_any _ false HDi.out _).mono ?_; rintro e w' ⟨rfl, rfl⟩))
          go_ret
          exact ⟨by rw [HF.out]; rfl, rfl⟩
        · have HDi := Lib.hid hdi
          clear hdi
          have hnext : nameB (bs s) = okW (bs s) (k + 1) := by
            have di : dig ((bs s)[k]'hlt') = true := HDi.out
            rw [hw.out, hst.out, di]; simp
          have HN := Lib.hid hnext
          clear hnext hw hst
          go_wp2_with (first | (go_at_call 20; refine (rletter_any _ false HLo.out _).mono ?_; rintro e w' ⟨rfl, rfl⟩) | (go_at_call 21; refine (rdigit_any _ true HDi.out _).mono ?_; rintro e w' ⟨rfl, rfl⟩))
          go_round
          case rel => exact ⟨k + 1, by omega, by go_num, HN⟩
          case measure => simp [intOf]; omega
      · have HLo := Lib.hid hlo
        clear hlo
        have hnext : nameB (bs s) = okW (bs s) (k + 1) := by
          have lo : low ((bs s)[k]'hlt') = true := HLo.out
          rw [hw.out, hst.out, lo]; simp
        have HN := Lib.hid hnext
        clear hnext hw hst
        go_wp2_with (first | (go_at_call 20; refine (rletter_any _ true HLo.out _).mono ?_; rintro e w' ⟨rfl, rfl⟩))
        go_round
        case rel => exact ⟨k + 1, by omega, by go_num, HN⟩
        case measure => simp [intOf]; omega
    · have hfin : nameB (bs s) = true := by
        rw [hw.out, okW_end _ _ (by rw [HL.out]; omega)]
      have HF := Lib.hid hfin
      clear hfin hw
      go_wp2
      go_ret
      exact ⟨by rw [HF.out]; rfl, rfl⟩

/-- The specification's value of digits. -/
def valR (l : List UInt8) : Int := if val 0 l ≤ 2147483647 then val 0 l else -1
theorem val_cut (l : List UInt8) (k : Nat) (hd : ∀ c ∈ l, dig c = true) (h : 2147483647 < val 0 (l.take k)) : 2147483647 < val 0 l := by
  have e : val 0 l = val (val 0 (l.take k)) (l.drop k) := by rw [← val_app, List.take_append_drop]
  have := val_mono (val 0 (l.take k)) (l.drop k) (by omega) (fun c hc => hd c (List.mem_of_mem_drop hc))
  omega
set_option maxHeartbeats 400000 in
theorem rvalue_any (s : ByteArray) (hs : s.size ≤ maxLen) (hd : ∀ c ∈ bs s, dig c = true) (w : World) :
    Calls Tryd.prog 22 #[.string s] w fun e w' => e = .returned (.int .i64 (valR (bs s))) ∧ w = w' := by
  unfold maxLen at hs
  have HL := Lib.hid (bs_len s)
  have HD := Lib.hid hd
  clear hd
  go_enter Tryd.func22, Tryd.ntmps22
  go_wp2
  go_loop [3, 4] (fun n i => ∃ k : Nat, k ≤ s.size ∧ i = .int .i64 k ∧ ∃ v : Int, n = .int .i64 v ∧ 0 ≤ v ∧ v ≤ 2147483647 ∧ Hid (v = val 0 ((bs s).take k))) (fun _ i => s.size - (intOf i).toNat)
  case atStart => exact ⟨0, Nat.zero_le _, rfl, 0, rfl, by omega, by omega, Lib.hid (by simp [val])⟩
  case round =>
    obtain ⟨k, hk, rfl, v, rfl, hv0, hv1, hv⟩ := hrel
    by_cases hlt : k < s.size
    · have hlt' : k < (bs s).length := by rw [HL.out]; exact hlt
      have hb := dig_ge (HD.out ((bs s)[k]'hlt') (List.getElem_mem hlt'))
      have hb1 : 48 ≤ (s[k].toNat : Int) := hb.1
      have hb2 : (s[k].toNat : Int) ≤ 57 := hb.2
      have hstep : 10 * v + ((s[k].toNat : Int) - 48) = val 0 ((bs s).take (k + 1)) := by rw [val_step (bs s) k hlt', hv.out]; rfl
      have hS := Lib.hid hstep
      clear hstep hb
      by_cases hg : 10 * v + ((s[k].toNat : Int) - 48) ≤ 2147483647
      · go_wp2
        go_round
        case rel => exact ⟨k + 1, by omega, by go_num, 10 * v + ((s[k].toNat : Int) - 48), by go_num, by omega, hg, hS⟩
        case measure => simp [intOf]; omega
      · have hfin : valR (bs s) = -1 := by
          unfold valR
          rw [if_neg]
          have := val_cut (bs s) (k + 1) HD.out (by rw [← hS.out]; omega)
          omega
        have HF := Lib.hid hfin
        clear hfin
        go_wp2
        go_ret
        exact ⟨by rw [HF.out]; rfl, rfl⟩
    · have hfin : valR (bs s) = v := by
        have e : (bs s).take k = bs s := List.take_of_length_le (by rw [HL.out]; omega)
        have hv' := hv.out
        rw [e] at hv'
        unfold valR
        rw [← hv', if_pos hv1]
      have HF := Lib.hid hfin
      clear hfin
      go_wp2
      go_ret
      exact ⟨ret_int (by rw [HF.out]), rfl⟩
end Go.Proofs.YtbppfhlpielpcaaDoor

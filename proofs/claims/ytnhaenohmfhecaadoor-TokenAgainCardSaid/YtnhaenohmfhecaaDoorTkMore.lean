/- Plain lists: the words of tokens, with separators between them, have the same tokens. No program. -/
import Derived.Test.YtnhaenohmfhecaaDoorTkWord
import Derived.Lib.ItoaNum
namespace Go.Proofs.YtnhaenohmfhecaaDoor.Tk
open Go.Proofs.YtnhaenohmfhecaaDoor

def er0 (t : Tok) : Tok := { t with line := 0 }
def strip (r : Except Int (List Tok)) : Option (List Tok) :=
  match r with
  | .ok T => some (T.map er0)
  | .error _ => none
theorem strip_pre (t : Tok) (r : Except Int (List Tok)) : strip (pre [t] r) = (strip r).map (er0 t :: ·) := by
  cases r <;> simp [strip, pre]
theorem strip_scan (f : Nat) (l : List UInt8) (n m : Int) : strip (scan f l n) = strip (scan f l m) := by
  induction f generalizing l n m with
  | zero => rfl
  | succ f ih =>
    match l with
    | [] => rfl
    | c :: r =>
      simp only [scan]
      split
      · exact ih _ _ _
      · split
        · exact ih _ _ _
        · split
          · rfl
          · rw [strip_pre, strip_pre, ih _ n m]; rfl
theorem strip_go (l : List UInt8) (n m : Int) : strip (go l n) = strip (go l m) := strip_scan _ _ _ _
theorem strip_line (c : UInt8) (r : List UInt8) (n : Int) (h : sep c = true) : strip (go (c :: r) n) = strip (go r n) := by
  by_cases h10 : c.toNat = 10
  · rw [go_line _ _ _ h10]; exact strip_go _ _ _
  · rw [go_sep _ _ _ h10 h]
theorem strip_seps (w l : List UInt8) (n : Int) (hw : ∀ c ∈ w, sep c = true) : strip (go (w ++ l) n) = strip (go l n) := by
  induction w with
  | nil => rfl
  | cons c r ih => rw [List.cons_append, strip_line _ _ _ (hw c (by simp)), ih (fun d hd => hw d (by simp [hd]))]

/-! ### What each token is -/
inductive Good : Tok → Prop
  | name (n : Int) (x : List UInt8) (h0 : 0 < x.length) (h1 : low (x.getD 0 0) = true) (h2 : ∀ c ∈ x, (low c || dig c) = true) (h3 : x.length ≤ 12) : Good ⟨1, 0, n, x⟩
  | num (n v : Int) (h0 : 0 ≤ v) (h1 : v ≤ 2147483647) : Good ⟨2, v, n, []⟩
  | sign (n : Int) (x : List UInt8) (h : x ∈ Tk.signs) : Good ⟨3, 0, n, x⟩
theorem good_line {t : Tok} (h : Good t) (n : Int) : Good { t with line := n } := by
  cases h with
  | name _ x h0 h1 h2 h3 => exact .name n x h0 h1 h2 h3
  | num _ v h0 h1 => exact .num n v h0 h1
  | sign _ x h => exact .sign n x h
theorem ws_alnum (f : Bool) (l : List UInt8) : ∀ c ∈ l.take (ws f l), (low c || dig c) = true := by
  induction l generalizing f with
  | nil => simp [ws]
  | cons c r ih =>
    intro d hd
    unfold ws at hd
    split at hd
    · rename_i h
      rw [Nat.add_comm, List.take_succ_cons] at hd
      rcases List.mem_cons.1 hd with rfl | hd
      · cases f with
        | false => simpa using h
        | true =>
          have : low d = true := by simpa using h
          simp [this]
      · exact ih false d hd
    · simp at hd
theorem first_good {l : List UInt8} {t : Tok} {k : Nat} (h : first l = some (t, k)) : Good t := by
  unfold first at h
  match l, h with
  | c :: r, h =>
    simp only at h
    split at h
    · rename_i hl
      split at h
      · rename_i h12
        simp only [Option.some.injEq, Prod.mk.injEq] at h
        rw [← h.1]
        have hp := ws_pos (c :: r) (by simp) hl
        have hle := ws_le true (c :: r)
        have hlen : ((c :: r).take (ws true (c :: r))).length = ws true (c :: r) := by rw [List.length_take]; omega
        refine .name 0 _ (by omega) ?_ (ws_alnum _ _) (by omega)
        have e : ((c :: r).take (ws true (c :: r))).getD 0 0 = c := by
          obtain ⟨m, hm⟩ : ∃ m, ws true (c :: r) = m + 1 := ⟨ws true (c :: r) - 1, by omega⟩
          rw [hm]; rfl
        rw [e]; exact hl
      · cases h
    · split at h
      · split at h
        · rename_i hn
          simp only [Option.some.injEq, Prod.mk.injEq] at h
          rw [← h.1]
          exact .num 0 _ (num_nonneg _) hn
        · cases h
      · split at h
        · cases h
        · rename_i hz
          simp only [Option.some.injEq, Prod.mk.injEq] at h
          rw [← h.1]
          refine .sign 0 _ ?_
          have : isSign ((c :: r).take (sgn (c :: r))) = true := by
            unfold sgn at hz ⊢
            split
            · rename_i a; exact a.2
            · rename_i a
              rw [if_neg a] at hz
              split
              · rename_i b; exact b
              · rename_i b; rw [if_neg b] at hz; exact absurd rfl hz
          unfold isSign at this
          exact List.contains_iff_mem.1 this

/-! ### Digits -/
theorem dig_of (v : Nat) (h : v < 10) : dig (UInt8.ofNat (48 + v)) = true ∧ ((UInt8.ofNat (48 + v)).toNat : Int) - 48 = v := by
  have e : (UInt8.ofNat (48 + v)).toNat = 48 + v := by rw [UInt8.toNat_ofNat']; omega
  refine ⟨?_, by omega⟩
  unfold dig digB
  rw [e]
  simp; omega
theorem dec_dig (f : Nat) : ∀ u : Nat, u ≤ f → (∀ c ∈ Lib.decDigits u, dig c = true) ∧ 0 < (Lib.decDigits u).length ∧ ∀ a, val a (Lib.decDigits u) = a * 10 ^ (Lib.decDigits u).length + u := by
  induction f with
  | zero =>
    intro u h
    have : u = 0 := by omega
    subst this
    rw [Lib.decDigits, dif_pos (by omega)]
    exact ⟨fun c hc => by rw [List.mem_singleton.1 hc]; exact (dig_of 0 (by omega)).1, by simp, fun a => by simp [val]; omega⟩
  | succ f ih =>
    intro u h
    rw [Lib.decDigits]
    split
    · rename_i h10
      have hd := dig_of u h10
      refine ⟨fun c hc => by rw [List.mem_singleton.1 hc]; exact hd.1, by simp, fun a => ?_⟩
      simp only [val, List.length_cons, List.length_nil, hd.2]
      omega
    · obtain ⟨i1, i2, i3⟩ := ih (u / 10) (by omega)
      have hd := dig_of (u % 10) (by omega)
      refine ⟨fun c hc => ?_, by rw [List.length_append]; omega, fun a => ?_⟩
      · rcases List.mem_append.1 hc with hc | hc
        · exact i1 c hc
        · rw [List.mem_singleton.1 hc]; exact hd.1
      · rw [val_app, i3, List.length_append, List.length_cons, List.length_nil, Int.pow_succ]
        simp only [val, hd.2]
        generalize (10 : Int) ^ (Lib.decDigits (u / 10)).length = X
        have e1 : 10 * (a * X) = a * (X * 10) := by rw [← Int.mul_assoc, Int.mul_comm 10 a, Int.mul_assoc, Int.mul_comm 10 X]
        rw [Int.mul_add, e1]
        omega
theorem dec_short (d : Nat) : ∀ u : Nat, 1 ≤ d → u < 10 ^ d → (Lib.decDigits u).length ≤ d := by
  induction d with
  | zero => intro u h; omega
  | succ d ih =>
    intro u _ hu
    rw [Lib.decDigits]
    split
    · simp
    · rw [List.length_append, List.length_cons, List.length_nil]
      rw [Nat.pow_succ] at hu
      by_cases h1 : 1 ≤ d
      · have := ih (u / 10) h1 (by omega)
        omega
      · have : d = 0 := by omega
        subst this
        simp at hu; omega
theorem val_lt (l : List UInt8) (hd : ∀ c ∈ l, dig c = true) : ∀ a : Int, 0 ≤ a → val a l < (a + 1) * 10 ^ l.length := by
  induction l with
  | nil => intro a _; simp [val]; omega
  | cons c r ih =>
    intro a ha
    have hc := dig_ge (hd c (by simp))
    have := ih (fun d hd' => hd d (by simp [hd'])) (10 * a + ((c.toNat : Int) - 48)) (by omega)
    simp only [val, List.length_cons]
    rw [Int.pow_succ]
    have hpos : (0 : Int) < 10 ^ r.length := Int.pow_pos (by omega)
    have h2 : (10 * a + ((c.toNat : Int) - 48) + 1) * 10 ^ r.length ≤ ((a + 1) * 10) * 10 ^ r.length := Int.mul_le_mul_of_nonneg_right (by omega) (by omega)
    rw [Int.mul_comm (10 ^ r.length) 10, ← Int.mul_assoc]
    omega

/-! ### A word, and then nothing or a separator -/
def Ends (r : List UInt8) : Prop := r = [] ∨ ∃ s r', r = s :: r' ∧ sep s = true
theorem sep_not {s : UInt8} (h : sep s = true) : low s = false ∧ dig s = false := by
  unfold sep sepB at h
  unfold low dig lowB digB
  simp at h ⊢
  omega
theorem ws_ends (f : Bool) (x r : List UInt8) (hr : Ends r) : ws f (x ++ r) = ws f x := by
  induction x generalizing f with
  | nil =>
    rcases hr with rfl | ⟨s, r', rfl, hs⟩
    · rfl
    · have := sep_not hs
      have e : ws f (s :: r') = 0 := by rw [ws, if_neg (by simp [this])]
      rw [List.nil_append, e]; rfl
  | cons c x ih =>
    rw [List.cons_append, ws, ws]
    split
    · rw [ih]
    · rfl
theorem cntD_ends (x r : List UInt8) (hr : Ends r) : cntD (x ++ r) = cntD x := by
  induction x with
  | nil =>
    rcases hr with rfl | ⟨s, r', rfl, hs⟩
    · rfl
    · have := sep_not hs
      have e : cntD (s :: r') = 0 := by rw [cntD, if_neg (by simp [this])]
      rw [List.nil_append, e]; rfl
  | cons c x ih =>
    rw [List.cons_append, cntD, cntD]
    split
    · rw [ih]
    · rfl
theorem no_sep : ∀ x ∈ Tk.signs, ∀ c ∈ x, sep c = false := by decide
theorem sign_two (a s : UInt8) (hs : sep s = true) : isSign [a, s] = false := by
  cases h : isSign [a, s] with
  | false => rfl
  | true =>
    unfold isSign at h
    have := no_sep _ (List.contains_iff_mem.1 h) s (by simp)
    rw [hs] at this; cases this
theorem sgn_ends (x r : List UInt8) (h0 : 0 < x.length) (hr : Ends r) : sgn (x ++ r) = sgn x := by
  match x, h0 with
  | [c], _ =>
    have e1 : ([c] ++ r).take 1 = [c].take 1 := rfl
    unfold sgn
    rw [e1]
    rcases hr with rfl | ⟨s, r', rfl, hs⟩
    · rfl
    · have e2 : ([c] ++ s :: r').take 2 = [c, s] := rfl
      rw [e2, sign_two c s hs]
      simp
  | c :: d :: x, _ =>
    unfold sgn
    have e1 : (c :: d :: x ++ r).take 2 = (c :: d :: x).take 2 := rfl
    have e2 : (c :: d :: x ++ r).take 1 = (c :: d :: x).take 1 := rfl
    rw [e1, e2]
    simp
theorem first_ends (x r : List UInt8) (h0 : 0 < x.length) (hr : Ends r) : first (x ++ r) = first x := by
  have hs := sgn_ends x r h0 hr
  have hw := ws_ends true x r hr
  have hc := cntD_ends x r hr
  have t1 : (x ++ r).take (ws true x) = x.take (ws true x) := List.take_append_of_le_length (ws_le _ _)
  have t2 : (x ++ r).take (cntD x) = x.take (cntD x) := List.take_append_of_le_length (cntD_le _)
  have t3 : (x ++ r).take (sgn x) = x.take (sgn x) := List.take_append_of_le_length (sgn_le _ (List.ne_nil_of_length_pos h0))
  match x, h0 with
  | c :: x, _ =>
    unfold first num
    rw [List.cons_append] at *
    simp only [hs, hw, hc, t1, t2, t3]
theorem ws_whole (x : List UInt8) (h2 : ∀ c ∈ x, (low c || dig c) = true) : ws false x = x.length := by
  induction x with
  | nil => rfl
  | cons c r ih =>
    rw [ws, if_pos (by simpa using h2 c (by simp)), ih (fun d hd => h2 d (by simp [hd]))]
    simp; omega
theorem cntD_whole (x : List UInt8) (h2 : ∀ c ∈ x, dig c = true) : cntD x = x.length := by
  induction x with
  | nil => rfl
  | cons c r ih =>
    rw [cntD, if_pos (h2 c (by simp)), ih (fun d hd => h2 d (by simp [hd]))]
    simp; omega
theorem sign_heads : ∀ x ∈ Tk.signs, 0 < x.length ∧ low (x.getD 0 0) = false ∧ dig (x.getD 0 0) = false ∧ sgn x = x.length := by decide +kernel
theorem sign_head : ∀ x ∈ Tk.signs, ∃ c r, x = c :: r ∧ low c = false ∧ dig c = false ∧ sgn x = x.length := fun x hx => by
  have h := sign_heads x hx
  match x, h with
  | c :: r, h => exact ⟨c, r, rfl, h.2.1, h.2.2.1, h.2.2.2⟩
theorem wordL_name (n : Int) (x : List UInt8) : wordL ⟨1, 0, n, x⟩ = x := word_text (.inl rfl)
theorem wordL_sign (n : Int) (x : List UInt8) : wordL ⟨3, 0, n, x⟩ = x := word_text (.inr rfl)
/-- The word of a token is read as that token. -/
theorem first_word {t : Tok} (h : Good t) : first (wordL t) = some (er0 t, (wordL t).length) ∧ ∃ c r, wordL t = c :: r ∧ sep c = false := by
  cases h with
  | name n x h0 h1 h2 h3 =>
    rw [wordL_name]
    match x, h0, h1, h2, h3 with
    | c :: r, _, h1, h2, h3 =>
      have hl : low c = true := h1
      have hw : ws true (c :: r) = (c :: r).length := by
        rw [ws_head (c :: r) (by simp) hl]; exact ws_whole _ h2
      refine ⟨?_, c, r, rfl, ?_⟩
      · rw [first_name (c :: r) (by simp) hl, hw, if_pos h3, List.take_length]; rfl
      · cases hs : sep c with
        | false => rfl
        | true => have := (sep_not hs).1; rw [hl] at this; cases this
  | num n v h0 h1 =>
    rw [word_num rfl h0 h1]
    simp only
    obtain ⟨d1, d2, d3⟩ := dec_dig _ v.toNat (Nat.le_refl _)
    have hc := cntD_whole _ d1
    generalize hx : Lib.decDigits v.toNat = x at *
    match x, d2 with
    | c :: r, _ =>
      have hd : dig c = true := d1 c (by simp)
      have hl : low c = false := by
        have := dig_ge hd
        unfold low lowB; simp; omega
      have hv : val 0 (c :: r) = v := by rw [d3]; omega
      refine ⟨?_, c, r, rfl, ?_⟩
      · have hn : num (c :: r) = v := by unfold num; rw [hc, List.take_length, hv]
        rw [first_num (c :: r) (by simp) hl hd, hn, hc, if_pos h1]; rfl
      · cases hs : sep c with
        | false => rfl
        | true => have := (sep_not hs).2; rw [hd] at this; cases this
  | sign n x h =>
    rw [wordL_sign]
    obtain ⟨c, r, rfl, hl, hd, hs⟩ := sign_head x h
    refine ⟨?_, c, r, rfl, no_sep _ h c (by simp)⟩
    rw [first_sign (c :: r) (by simp) hl hd, hs, if_neg (by simp), List.take_length]; rfl
theorem go_word {t : Tok} (h : Good t) (r : List UInt8) (hr : Ends r) (n : Int) : go (wordL t ++ r) n = pre [{ t with line := n }] (go r n) := by
  obtain ⟨hf, c, x, hx, hs⟩ := first_word h
  have h0 : 0 < (wordL t).length := by rw [hx]; simp
  have hf' := first_ends (wordL t) r h0 hr
  rw [hf] at hf'
  have hd : (wordL t ++ r).drop (wordL t).length = r := List.drop_left
  generalize (wordL t).length = k at hf' hd
  rw [hx] at hf' hd ⊢
  rw [List.cons_append] at hf' hd ⊢
  rw [go_some c (x ++ r) n _ _ hs hf', hd]
  rfl
theorem strip_word {t : Tok} (h : Good t) (r : List UInt8) (hr : Ends r) (n : Int) : strip (go (wordL t ++ r) n) = (strip (go r n)).map (er0 t :: ·) := by
  rw [go_word h r hr, strip_pre]; rfl

/-! ### What a scan's tokens are -/
structure Fine (n : Int) (T : List Tok) : Prop where
  good : ∀ t ∈ T, Good t
  low : ∀ t ∈ T, n ≤ t.line
  rise : T.Pairwise (fun a b => a.line ≤ b.line)
def wlen (T : List Tok) : Nat := (T.flatMap wordL).length
theorem word_size {l : List UInt8} {t : Tok} {k : Nat} (h : first l = some (t, k)) : (wordL t).length ≤ k := by
  unfold first at h
  match l, h with
  | c :: r, h =>
    simp only at h
    split at h
    · split at h
      · simp only [Option.some.injEq, Prod.mk.injEq] at h
        rw [← h.1, ← h.2, wordL_name, List.length_take]; omega
      · cases h
    · split at h
      · rename_i hd
        split at h
        · rename_i hn
          simp only [Option.some.injEq, Prod.mk.injEq] at h
          rw [← h.1, ← h.2, word_num rfl (num_nonneg _) hn]
          simp only
          have h1 : 1 ≤ cntD (c :: r) := by rw [cntD, if_pos hd]; omega
          refine dec_short _ _ h1 ?_
          have := val_lt ((c :: r).take (cntD (c :: r))) (digs _) 0 (by omega)
          have e : ((c :: r).take (cntD (c :: r))).length = cntD (c :: r) := by rw [List.length_take]; have := cntD_le (c :: r); omega
          rw [e] at this
          have h0 := num_nonneg (c :: r)
          unfold num at h0 ⊢
          have e2 : ((10 ^ cntD (c :: r) : Nat) : Int) = 10 ^ cntD (c :: r) := by simp
          omega
        · cases h
      · split at h
        · cases h
        · simp only [Option.some.injEq, Prod.mk.injEq] at h
          rw [← h.1, ← h.2, wordL_sign, List.length_take]; omega
theorem scan_fine (f : Nat) : ∀ (l : List UInt8) (n : Int) (T : List Tok), scan f l n = .ok T → Fine n T ∧ wlen T ≤ l.length := by
  induction f with
  | zero => intro l n T h; simp only [scan, Except.ok.injEq] at h; subst h; exact ⟨⟨by simp, by simp, by simp⟩, by simp [wlen]⟩
  | succ f ih =>
    intro l n T h
    match l, h with
    | [], h => simp only [scan, Except.ok.injEq] at h; subst h; exact ⟨⟨by simp, by simp, by simp⟩, by simp [wlen]⟩
    | c :: r, h =>
      simp only [scan] at h
      split at h
      · obtain ⟨i1, i2⟩ := ih _ _ _ h
        exact ⟨⟨i1.good, fun t ht => by have := i1.low t ht; omega, i1.rise⟩, by simp; omega⟩
      · split at h
        · obtain ⟨i1, i2⟩ := ih _ _ _ h
          exact ⟨i1, by simp; omega⟩
        · split at h
          · cases h
          · rename_i t k hk
            have h1 := first_size hk
            have h2 := word_size hk
            cases hs : scan f ((c :: r).drop k) n with
            | error m => rw [hs] at h; simp [pre] at h
            | ok U =>
              rw [hs] at h
              simp only [pre, Except.ok.injEq] at h
              subst h
              obtain ⟨i1, i2⟩ := ih _ _ _ hs
              refine ⟨⟨fun t' ht' => ?_, fun t' ht' => ?_, ?_⟩, ?_⟩
              · simp only [List.cons_append, List.nil_append, List.mem_cons] at ht'
                rcases ht' with rfl | ht'
                · exact good_line (first_good hk) n
                · exact i1.good t' ht'
              · simp only [List.cons_append, List.nil_append, List.mem_cons] at ht'
                rcases ht' with rfl | ht'
                · exact Int.le_refl _
                · exact i1.low t' ht'
              · simp only [List.cons_append, List.nil_append, List.pairwise_cons]
                exact ⟨fun b hb => i1.low b hb, i1.rise⟩
              · have e : wordL { t with line := n } = wordL t := rfl
                simp only [wlen, List.cons_append, List.nil_append, List.flatMap_cons, List.length_append, e, List.length_cons]
                unfold wlen at i2
                rw [List.length_drop] at i2
                simp only [List.length_cons] at i2 h1
                omega

/-! ### Words with something between them -/
theorem strip_end (w : List UInt8) (hw : ∀ c ∈ w, sep c = true) (f : Nat) : ∀ (l : List UInt8) (n : Int), l.length ≤ f → strip (go l n) ≠ none → strip (go (l ++ w) n) = strip (go l n) := by
  have hE : Ends w := by
    cases w with
    | nil => exact .inl rfl
    | cons c r => exact .inr ⟨c, r, rfl, hw c (by simp)⟩
  have h0 : ∀ n, strip (go w n) = some [] := fun n => by
    have := strip_seps w [] n hw
    rw [List.append_nil] at this
    rw [this]; rfl
  induction f with
  | zero =>
    intro l n hl _
    have : l = [] := List.length_eq_zero_iff.1 (by omega)
    subst this
    rw [List.nil_append, h0]; rfl
  | succ f ih =>
    intro l n hl hne
    match l, hl, hne with
    | [], _, _ => rw [List.nil_append, h0]; rfl
    | c :: r, hl, hne =>
      simp only [List.length_cons] at hl
      by_cases hs : sep c = true
      · rw [strip_line c r n hs] at hne ⊢
        rw [List.cons_append, strip_line c _ n hs]
        exact ih r n (by omega) hne
      · have hs' : sep c = false := by simpa using hs
        have hf := first_ends (c :: r) w (by simp) hE
        cases hfi : first (c :: r) with
        | none => rw [go_none c r n hs' hfi] at hne; exact absurd rfl hne
        | some q =>
          obtain ⟨t, k⟩ := q
          have hk := first_size hfi
          rw [hfi] at hf
          have e1 := go_some c r n t k hs' hfi
          have e2 := go_some c (r ++ w) n t k hs' hf
          have e3 : (c :: (r ++ w)).drop k = (c :: r).drop k ++ w := by
            rw [← List.cons_append, List.drop_append_of_le_length hk.2]
          rw [List.cons_append, e2, e1, strip_pre, strip_pre, e3]
          rw [e1, strip_pre] at hne
          rw [ih _ n (by rw [List.length_drop]; simp only [List.length_cons]; omega) (fun e => hne (by rw [e]; rfl))]
theorem alike_strip {T U : List Tok} (h : T.map er0 = U.map er0) : Alike false T U := by
  have hl : T.length = U.length := by have := congrArg List.length h; simpa using this
  refine ⟨hl, fun i a b ha hb => ?_⟩
  have : (T.map er0)[i]? = (U.map er0)[i]? := by rw [h]
  rw [List.getElem?_map, List.getElem?_map, ha, hb] at this
  simp only [Option.map_some, Option.some.injEq, er0, Tok.mk.injEq] at this
  exact ⟨this.1, this.2.1, this.2.2.2, fun e => by cases e⟩
theorem strip_ok {l : List UInt8} {n : Int} {U : List Tok} (h : strip (go l n) = some U) : ∃ T, go l n = .ok T ∧ T.map er0 = U := by
  cases hg : go l n with
  | error m => rw [hg] at h; cases h
  | ok T => rw [hg] at h; exact ⟨T, rfl, by simpa [strip] using h⟩
end Go.Proofs.YtnhaenohmfhecaaDoor.Tk

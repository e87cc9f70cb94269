/- Lists of expressions, level by level. No condition. -/
import Derived.Test.YtaabhlkhddkglaaDoorTrMem
namespace Go.Proofs.YtaabhlkhddkglaaDoor
open Go.RowKit
set_option linter.unusedVariables false
namespace Exs
/-- The arguments of each of them. -/
def args : Exs → List Exs
  | nil => []
  | cons _ _ _ _ a r => a :: r.args
def size : Exs → Nat
  | nil => 0
  | cons _ _ _ _ a r => 1 + a.size + r.size
def inner (L : List Exs) : List Exs := L.flatMap args
def sizes (L : List Exs) : Nat := (L.map size).sum
theorem args_len : ∀ t : Exs, t.args.length = t.len
  | nil => rfl
  | cons _ _ _ _ a r => by simp only [args, List.length_cons, len]; rw [args_len r]
theorem args_drop : ∀ (t : Exs) (i : Nat) {k n : Int} {s : ByteArray} {o : Int} {a r : Exs}, t.drop i = cons k n s o a r → t.args.take (i + 1) = t.args.take i ++ [a]
  | nil, 0, _, _, _, _, _, _, h => by cases h
  | nil, _ + 1, _, _, _, _, _, _, h => by cases h
  | cons _ _ _ _ _ _, 0, _, _, _, _, _, _, h => by
    rw [drop_zero] at h
    cases h
    simp [args]
  | cons _ _ _ _ _ r, i + 1, _, _, _, _, _, _, h => by
    have := args_drop r i h
    simp only [args, List.take_succ_cons, this, List.cons_append]
theorem sizes_args : ∀ t : Exs, sizes t.args + t.len = t.size
  | nil => rfl
  | cons _ _ _ _ a r => by
    have := sizes_args r
    simp only [sizes, args, List.map_cons, List.sum_cons, len, size] at this ⊢
    omega
theorem sizes_append (L M : List Exs) : sizes (L ++ M) = sizes L + sizes M := by simp [sizes]
theorem sizes_inner : ∀ L : List Exs, sizes (inner L) ≤ sizes L
  | [] => Nat.le_refl _
  | t :: L => by
    have h1 := sizes_args t
    have h2 := sizes_inner L
    rw [show inner (t :: L) = t.args ++ inner L from rfl, sizes_append, show sizes (t :: L) = t.size + sizes L by simp [sizes]]
    omega
theorem len_size (t : Exs) : t.len ≤ t.size := by have := sizes_args t; omega
/-- The lists that are found: of those within, each that is not empty, some of them once. -/
def Found (L F : List Exs) : Prop := F.Sublist (inner L) ∧ (∀ t ∈ F, 0 < t.len) ∧ ∀ t ∈ inner L, 0 < t.len → t ∈ F
theorem sizes_sub {F L : List Exs} (h : F.Sublist L) : sizes F ≤ sizes L := by
  induction h with
  | slnil => exact Nat.le_refl _
  | cons a _ ih => simp only [sizes, List.map_cons, List.sum_cons] at ih ⊢; omega
  | cons_cons a _ ih => simp only [sizes, List.map_cons, List.sum_cons] at ih ⊢; omega
theorem Found.sizes {L F : List Exs} (h : Found L F) : sizes F ≤ sizes L := Nat.le_trans (sizes_sub h.1) (sizes_inner L)
theorem count_sizes : ∀ {F : List Exs}, (∀ t ∈ F, 0 < t.len) → F.length ≤ Exs.sizes F
  | [], _ => Nat.le_refl _
  | t :: F, h => by
    have h1 := count_sizes (F := F) fun x hx => h x (by simp [hx])
    have h2 := h t (by simp)
    have h3 := len_size t
    simp only [Exs.sizes, List.map_cons, List.sum_cons, List.length_cons] at h1 ⊢
    omega
/-- One of them is deeper. -/
def Dp (h : Nat) (L : List Exs) : Prop := ∃ t ∈ L, h < t.height
theorem height_args (h : Nat) : ∀ t : Exs, h + 1 < t.height ↔ ∃ a ∈ t.args, h < a.height
  | nil => by simp [height, args]
  | cons _ _ _ _ a r => by
    have := height_args h r
    simp only [height, args, List.mem_cons, exists_eq_or_imp, ← this]
    omega
theorem height_len : ∀ t : Exs, 0 < t.height ↔ 0 < t.len
  | nil => by simp [height, len]
  | cons _ _ _ _ a r => by simp only [height, len]; omega
theorem Found.dp {L F : List Exs} (h : Found L F) (n : Nat) : Dp n F ↔ Dp (n + 1) L := by
  constructor
  · rintro ⟨t, ht, hh⟩
    obtain ⟨u, hu, hm⟩ := List.mem_flatMap.1 (h.1.subset ht)
    exact ⟨u, hu, (height_args n u).2 ⟨t, hm, hh⟩⟩
  · rintro ⟨u, hu, hh⟩
    obtain ⟨a, ha, hn⟩ := (height_args n u).1 hh
    exact ⟨a, h.2.2 a (List.mem_flatMap.2 ⟨u, hu, ha⟩) ((height_len a).1 (by omega)), hn⟩
theorem Found.dp0 {L F : List Exs} (h : Found L F) : 0 < F.length ↔ Dp 0 F := by
  constructor
  · intro hl
    cases F with
    | nil => simp at hl
    | cons t F => exact ⟨t, by simp, (height_len t).2 (h.2.1 t (by simp))⟩
  · rintro ⟨t, ht, _⟩
    exact List.length_pos_of_mem ht
/-- What holds of each of them, and of each down to a depth. -/
def all1 (q : Int → Int → ByteArray → Int → Nat → Bool) : Exs → Bool
  | nil => true
  | cons k n s o a r => q k n s o a.len && r.all1 q
def allTo (q : Int → Int → ByteArray → Int → Nat → Bool) : Nat → Exs → Bool
  | _, nil => true
  | m, cons k n s o a r => (match m with | 0 => true | m + 1 => q k n s o a.len && a.allTo q m) && r.allTo q m
theorem allTo_zero (q : Int → Int → ByteArray → Int → Nat → Bool) : ∀ t : Exs, t.allTo q 0 = true
  | nil => rfl
  | cons _ _ _ _ _ r => by simp [allTo, allTo_zero q r]
theorem allTo_succ (q : Int → Int → ByteArray → Int → Nat → Bool) (m : Nat) : ∀ t : Exs, t.allTo q (m + 1) = true ↔ t.all1 q = true ∧ ∀ a ∈ t.args, a.allTo q m = true
  | nil => by simp [allTo, all1, args]
  | cons k n s o a r => by
    have := allTo_succ q m r
    simp only [allTo, all1, args, Bool.and_eq_true, this, List.mem_cons, forall_eq_or_imp]
    constructor
    · rintro ⟨⟨h1, h2⟩, h3, h4⟩
      exact ⟨⟨h1, h3⟩, h2, h4⟩
    · rintro ⟨⟨h1, h3⟩, h2, h4⟩
      exact ⟨⟨h1, h2⟩, h3, h4⟩
theorem allTo_nil (q : Int → Int → ByteArray → Int → Nat → Bool) (m : Nat) {t : Exs} (h : t.len = 0) : t.allTo q m = true := by
  cases t with
  | nil => rfl
  | cons => simp [len] at h
theorem Found.all {L F : List Exs} (h : Found L F) (q : Int → Int → ByteArray → Int → Nat → Bool) (m : Nat) : (∀ t ∈ L, t.allTo q (m + 1) = true) ↔ (∀ t ∈ L, t.all1 q = true) ∧ ∀ t ∈ F, t.allTo q m = true := by
  simp only [allTo_succ]
  constructor
  · intro hh
    refine ⟨fun t ht => (hh t ht).1, fun t ht => ?_⟩
    obtain ⟨u, hu, hm⟩ := List.mem_flatMap.1 (h.1.subset ht)
    exact (hh u hu).2 t hm
  · rintro ⟨h1, h2⟩ t ht
    refine ⟨h1 t ht, fun a ha => ?_⟩
    by_cases hl : 0 < a.len
    · exact h2 a (h.2.2 a (List.mem_flatMap.2 ⟨t, ht, ha⟩) hl)
    · exact allTo_nil q m (by omega)
/-- What lies at an address is one list. -/
theorem At.uniq {w : World} {S S' : Nat → Prop} : ∀ {t u : Exs} {A : Option Addr}, t.At w S A → u.At w S' A → t.len = u.len → t = u
  | nil, nil, _, _, _, _ => rfl
  | nil, cons .., _, _, _, h => by simp [len] at h
  | cons .., nil, _, _, _, h => by simp [len] at h
  | cons k n s o a r, cons k' n' s' o' a' r', A, h, h', hl => by
    obtain ⟨b, f, e, _, _, c0, c1, c2, c3, ⟨B, c, c4, _, ha⟩, hr⟩ := h
    obtain ⟨b', f', e', _, _, d0, d1, d2, d3, ⟨B', c', d4, _, ha'⟩, hr'⟩ := h'
    rw [e] at e'
    injection e' with e'
    injection e' with e1 e2
    subst e1 e2
    rw [c0] at d0; rw [c1] at d1; rw [c2] at d2; rw [c3] at d3; rw [c4] at d4
    injection d0 with d0; injection d0 with _ d0
    injection d1 with d1; injection d1 with _ d1
    injection d2 with d2; injection d2 with d2
    injection d3 with d3; injection d3 with _ d3
    injection d4 with d4; injection d4 with d4 d5 _
    subst d0 d1 d2 d3 d4
    have ea := At.uniq ha ha' d5
    have er := At.uniq hr hr' (by simpa [len] using hl)
    rw [ea, er]
end Exs
end Go.Proofs.YtaabhlkhddkglaaDoor

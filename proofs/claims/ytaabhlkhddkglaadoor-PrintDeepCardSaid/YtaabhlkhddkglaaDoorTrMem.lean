/- Trees in memory: lists of expressions and of statements as they lie in blocks of rows. -/
import Derived.Below
import Derived.Deep.Draws
import Derived.Lib.Hide
namespace Go.Proofs.YtaabhlkhddkglaaDoor
open Go.RowKit

/-- A list of expressions: kind, number, name, operator, arguments; and the rest of the list. -/
inductive Exs where
  | nil
  | cons (k n : Int) (s : ByteArray) (o : Int) (a : Exs) (r : Exs)
namespace Exs
def len : Exs → Nat
  | nil => 0
  | cons _ _ _ _ _ r => r.len + 1
def drop : Nat → Exs → Exs
  | 0, t => t
  | _ + 1, nil => nil
  | i + 1, cons _ _ _ _ _ r => r.drop i
/-- The list lies at an address, in blocks of S alone. -/
def At (w : World) (S : Nat → Prop) : Exs → Option Addr → Prop
  | nil, _ => True
  | cons k n s o a r, A => ∃ b f, A = some ⟨b, f, none⟩ ∧ S b ∧ b < w.heap.size ∧ w.cell? ⟨b, f, none⟩ = some (.int .i64 k) ∧ w.cell? ⟨b, f + 1, none⟩ = some (.int .i64 n) ∧ w.cell? ⟨b, f + 2, none⟩ = some (.string s) ∧
      w.cell? ⟨b, f + 3, none⟩ = some (.int .i64 o) ∧ (∃ B c, w.cell? ⟨b, f + 4, none⟩ = some (.slice B a.len c) ∧ a.len ≤ c ∧ a.At w S B) ∧ r.At w S (some ⟨b, f + 5, none⟩)
/-- Its numbers are numbers of the kind, its texts and lists no longer than any can be. -/
def Wf : Exs → Prop
  | nil => True
  | cons k n s o a r => (-9223372036854775808 ≤ k ∧ k ≤ 9223372036854775807) ∧ (-9223372036854775808 ≤ n ∧ n ≤ 9223372036854775807) ∧ (-9223372036854775808 ≤ o ∧ o ≤ 9223372036854775807) ∧ s.size ≤ maxLen ∧ a.len ≤ maxLen ∧ a.Wf ∧ r.Wf
def height : Exs → Nat
  | nil => 0
  | cons _ _ _ _ a r => max (a.height + 1) r.height

theorem drop_zero (t : Exs) : t.drop 0 = t := by cases t <;> rfl
theorem drop_len : ∀ (t : Exs) (i : Nat), (t.drop i).len = t.len - i
  | nil, 0 => rfl
  | nil, _ + 1 => by simp [drop, len]
  | cons .., 0 => rfl
  | cons _ _ _ _ _ r, i + 1 => by simp only [drop, len]; rw [drop_len r i]; omega
theorem drop_drop : ∀ (t : Exs) (i j : Nat), (t.drop i).drop j = t.drop (i + j)
  | t, 0, j => by rw [drop_zero, Nat.zero_add]
  | nil, _ + 1, 0 => rfl
  | nil, i + 1, j + 1 => by rw [show i + 1 + (j + 1) = (i + 1 + j) + 1 by omega]; rfl
  | cons _ _ _ _ _ r, i + 1, j => by rw [show i + 1 + j = (i + j) + 1 by omega]; exact drop_drop r i j
theorem drop_height : ∀ (t : Exs) (i : Nat), (t.drop i).height ≤ t.height
  | t, 0 => by rw [drop_zero]; omega
  | nil, _ + 1 => Nat.le_refl _
  | cons _ _ _ _ a r, i + 1 => by have := drop_height r i; simp only [drop, height]; omega
/-- Element i, and what follows it. -/
theorem drop_cons : ∀ (t : Exs) (i : Nat), i < t.len → ∃ k n s o a, t.drop i = cons k n s o a (t.drop (i + 1))
  | nil, i, h => by simp [len] at h
  | cons k n s o a r, 0, _ => ⟨k, n, s, o, a, by rw [drop_zero]; show _ = cons k n s o a (r.drop 0); rw [drop_zero]⟩
  | cons _ _ _ _ _ r, i + 1, h => by
    obtain ⟨k, n, s, o, a, e⟩ := drop_cons r i (by simp only [len] at h; omega)
    exact ⟨k, n, s, o, a, e⟩
theorem drop_nil : ∀ (t : Exs) (i : Nat), t.len ≤ i → t.drop i = nil
  | nil, 0, _ => rfl
  | nil, _ + 1, _ => rfl
  | cons _ _ _ _ _ r, 0, h => by simp [len] at h
  | cons _ _ _ _ _ r, i + 1, h => drop_nil r i (by simp only [len] at h; omega)
theorem Wf.drop : ∀ {t : Exs} (_ : t.Wf) (i : Nat), (t.drop i).Wf
  | t, h, 0 => by rw [drop_zero]; exact h
  | nil, h, _ + 1 => h
  | cons _ _ _ _ _ r, h, i + 1 => Wf.drop (t := r) h.2.2.2.2.2.2 i
theorem At.drop {w : World} {S : Nat → Prop} : ∀ {t : Exs} {b f : Nat} (_ : t.At w S (some ⟨b, f, none⟩)) (i : Nat), (t.drop i).At w S (some ⟨b, f + i * 5, none⟩)
  | t, b, f, h, 0 => by rw [drop_zero, Nat.zero_mul, Nat.add_zero]; exact h
  | nil, _, _, _, _ + 1 => trivial
  | cons _ _ _ _ _ r, b, f, h, i + 1 => by
    obtain ⟨b', f', e, _, _, _, _, _, _, _, hr⟩ := h
    injection e with e
    injection e with e1 e2
    subst e1 e2
    have := At.drop (t := r) hr i
    rw [show f + (i + 1) * 5 = f + 5 + i * 5 by omega]
    exact this
theorem At.some {w : World} {S : Nat → Prop} {t : Exs} {A : Option Addr} (h : t.At w S A) (hl : 0 < t.len) : ∃ b f, A = some ⟨b, f, none⟩ := by
  cases t with
  | nil => simp [len] at hl
  | cons k n s o a r => obtain ⟨b, f, e, _⟩ := h; exact ⟨b, f, e⟩
/-- The list is where it was, in a world that has the same cells in its blocks. -/
theorem At.keep {w w' : World} {S S' : Nat → Prop} (hsz : w.heap.size ≤ w'.heap.size) (hS : ∀ b, S b → b < w.heap.size → S' b ∧ ∀ f, w'.cell? ⟨b, f, none⟩ = w.cell? ⟨b, f, none⟩) : ∀ {t : Exs} {A : Option Addr}, t.At w S A → t.At w' S' A
  | nil, _, _ => trivial
  | cons k n s o a r, A, h => by
    obtain ⟨b, f, e, hb, hlt, h0, h1, h2, h3, ⟨B, c, h4, hc, ha⟩, hr⟩ := h
    obtain ⟨hb', hk⟩ := hS b hb hlt
    exact ⟨b, f, e, hb', by omega, (hk _).trans h0, (hk _).trans h1, (hk _).trans h2, (hk _).trans h3, ⟨B, c, (hk _).trans h4, hc, At.keep hsz hS ha⟩, At.keep hsz hS hr⟩
theorem At.below {w w' : World} {S : Nat → Prop} {t : Exs} {A : Option Addr} (h : t.At w S A) (hb : Below w.heap.size w w') : t.At w' S A :=
  h.keep hb.size fun _ hs hlt => ⟨hs, fun f => hb.cell (p := ⟨_, f, none⟩) hlt⟩
theorem At.drewN {w : World} {S : Nat → Prop} {t : Exs} {A : Option Addr} (h : t.At w S A) (n : Nat) : t.At (w.drewN n) S A :=
  At.keep (w := w) (w' := w.drewN n) (S := S) (S' := S) (Nat.le_refl _) (fun _ hs _ => ⟨hs, fun _ => rfl⟩) h
theorem At.alloc {w : World} {S : Nat → Prop} {t : Exs} {A : Option Addr} (h : t.At w S A) (o : Obj) : t.At (w.alloc o) S A :=
  h.below ((Below.refl _ _).alloc (Nat.le_refl _) o)
end Exs

/-- A list of statements: kind, name, index, value, max, label, then, else; and the rest of the list. -/
inductive Sts where
  | nil
  | cons (k : Int) (s : ByteArray) (i v : Exs) (m l : Int) (t e : Sts) (r : Sts)
namespace Sts
def len : Sts → Nat
  | nil => 0
  | cons _ _ _ _ _ _ _ _ r => r.len + 1
def drop : Nat → Sts → Sts
  | 0, t => t
  | _ + 1, nil => nil
  | i + 1, cons _ _ _ _ _ _ _ _ r => r.drop i
def At (w : World) (S : Nat → Prop) : Sts → Option Addr → Prop
  | nil, _ => True
  | cons k s i v m l t e r, A => ∃ b f, A = some ⟨b, f, none⟩ ∧ S b ∧ b < w.heap.size ∧ w.cell? ⟨b, f, none⟩ = some (.int .i64 k) ∧ w.cell? ⟨b, f + 1, none⟩ = some (.string s) ∧
      (∃ B c, w.cell? ⟨b, f + 2, none⟩ = some (.slice B i.len c) ∧ i.len ≤ c ∧ i.At w S B) ∧ (∃ B c, w.cell? ⟨b, f + 3, none⟩ = some (.slice B v.len c) ∧ v.len ≤ c ∧ v.At w S B) ∧
      w.cell? ⟨b, f + 4, none⟩ = some (.int .i64 m) ∧ w.cell? ⟨b, f + 5, none⟩ = some (.int .i64 l) ∧
      (∃ B c, w.cell? ⟨b, f + 6, none⟩ = some (.slice B t.len c) ∧ t.len ≤ c ∧ t.At w S B) ∧ (∃ B c, w.cell? ⟨b, f + 7, none⟩ = some (.slice B e.len c) ∧ e.len ≤ c ∧ e.At w S B) ∧ r.At w S (some ⟨b, f + 8, none⟩)
def Wf : Sts → Prop
  | nil => True
  | cons k s i v m l t e r => (-9223372036854775808 ≤ k ∧ k ≤ 9223372036854775807) ∧ s.size ≤ maxLen ∧ (i.len ≤ maxLen ∧ i.Wf) ∧ (v.len ≤ maxLen ∧ v.Wf) ∧ (-9223372036854775808 ≤ m ∧ m ≤ 9223372036854775807) ∧ (-9223372036854775808 ≤ l ∧ l ≤ 9223372036854775807) ∧
      (t.len ≤ maxLen ∧ t.Wf) ∧ (e.len ≤ maxLen ∧ e.Wf) ∧ r.Wf
def height : Sts → Nat
  | nil => 0
  | cons _ _ _ _ _ _ t e r => max (max (t.height + 1) (e.height + 1)) r.height
theorem drop_zero (t : Sts) : t.drop 0 = t := by cases t <;> rfl
theorem drop_len : ∀ (t : Sts) (i : Nat), (t.drop i).len = t.len - i
  | nil, 0 => rfl
  | nil, _ + 1 => by simp [drop, len]
  | cons .., 0 => rfl
  | cons _ _ _ _ _ _ _ _ r, i + 1 => by simp only [drop, len]; rw [drop_len r i]; omega
theorem drop_cons : ∀ (t : Sts) (j : Nat), j < t.len → ∃ k s i v m l a e, t.drop j = cons k s i v m l a e (t.drop (j + 1))
  | nil, i, h => by simp [len] at h
  | cons k s i v m l a e r, 0, _ => ⟨k, s, i, v, m, l, a, e, by rw [drop_zero]; show _ = cons k s i v m l a e (r.drop 0); rw [drop_zero]⟩
  | cons _ _ _ _ _ _ _ _ r, j + 1, h => by
    obtain ⟨k, s, i, v, m, l, a, e, q⟩ := drop_cons r j (by simp only [len] at h; omega)
    exact ⟨k, s, i, v, m, l, a, e, q⟩
theorem drop_nil : ∀ (t : Sts) (i : Nat), t.len ≤ i → t.drop i = nil
  | nil, 0, _ => rfl
  | nil, _ + 1, _ => rfl
  | cons _ _ _ _ _ _ _ _ r, 0, h => by simp [len] at h
  | cons _ _ _ _ _ _ _ _ r, i + 1, h => drop_nil r i (by simp only [len] at h; omega)
theorem drop_height : ∀ (t : Sts) (i : Nat), (t.drop i).height ≤ t.height
  | t, 0 => by rw [drop_zero]; omega
  | nil, _ + 1 => Nat.le_refl _
  | cons _ _ _ _ _ _ _ _ r, i + 1 => by have := drop_height r i; simp only [drop, height]; omega
theorem Wf.drop : ∀ {t : Sts} (_ : t.Wf) (i : Nat), (t.drop i).Wf
  | t, h, 0 => by rw [drop_zero]; exact h
  | nil, h, _ + 1 => h
  | cons _ _ _ _ _ _ _ _ r, h, i + 1 => Wf.drop (t := r) h.2.2.2.2.2.2.2.2 i
theorem At.drop {w : World} {S : Nat → Prop} : ∀ {t : Sts} {b f : Nat} (_ : t.At w S (some ⟨b, f, none⟩)) (i : Nat), (t.drop i).At w S (some ⟨b, f + i * 8, none⟩)
  | t, b, f, h, 0 => by rw [drop_zero, Nat.zero_mul, Nat.add_zero]; exact h
  | nil, _, _, _, _ + 1 => trivial
  | cons _ _ _ _ _ _ _ _ r, b, f, h, i + 1 => by
    obtain ⟨b', f', e, _, _, _, _, _, _, _, _, _, _, hr⟩ := h
    injection e with e
    injection e with e1 e2
    subst e1 e2
    have := At.drop (t := r) hr i
    rw [show f + (i + 1) * 8 = f + 8 + i * 8 by omega]
    exact this
theorem At.some {w : World} {S : Nat → Prop} {t : Sts} {A : Option Addr} (h : t.At w S A) (hl : 0 < t.len) : ∃ b f, A = some ⟨b, f, none⟩ := by
  cases t with
  | nil => simp [len] at hl
  | cons => obtain ⟨b, f, e, _⟩ := h; exact ⟨b, f, e⟩
theorem At.keep {w w' : World} {S S' : Nat → Prop} (hsz : w.heap.size ≤ w'.heap.size) (hS : ∀ b, S b → b < w.heap.size → S' b ∧ ∀ f, w'.cell? ⟨b, f, none⟩ = w.cell? ⟨b, f, none⟩) : ∀ {t : Sts} {A : Option Addr}, t.At w S A → t.At w' S' A
  | nil, _, _ => trivial
  | cons .., A, h => by
    obtain ⟨b, f, e, hb, hlt, h0, h1, ⟨B2, c2, h2, l2, a2⟩, ⟨B3, c3, h3, l3, a3⟩, h4, h5, ⟨B6, c6, h6, l6, a6⟩, ⟨B7, c7, h7, l7, a7⟩, hr⟩ := h
    obtain ⟨hb', hk⟩ := hS b hb hlt
    exact ⟨b, f, e, hb', by omega, (hk _).trans h0, (hk _).trans h1, ⟨B2, c2, (hk _).trans h2, l2, a2.keep hsz hS⟩, ⟨B3, c3, (hk _).trans h3, l3, a3.keep hsz hS⟩, (hk _).trans h4, (hk _).trans h5,
      ⟨B6, c6, (hk _).trans h6, l6, At.keep hsz hS a6⟩, ⟨B7, c7, (hk _).trans h7, l7, At.keep hsz hS a7⟩, At.keep hsz hS hr⟩
theorem At.below {w w' : World} {S : Nat → Prop} {t : Sts} {A : Option Addr} (h : t.At w S A) (hb : Below w.heap.size w w') : t.At w' S A :=
  h.keep hb.size fun _ hs hlt => ⟨hs, fun f => hb.cell (p := ⟨_, f, none⟩) hlt⟩
theorem At.drewN {w : World} {S : Nat → Prop} {t : Sts} {A : Option Addr} (h : t.At w S A) (n : Nat) : t.At (w.drewN n) S A :=
  At.keep (w := w) (w' := w.drewN n) (S := S) (S' := S) (Nat.le_refl _) (fun _ hs _ => ⟨hs, fun _ => rfl⟩) h
theorem At.alloc {w : World} {S : Nat → Prop} {t : Sts} {A : Option Addr} (h : t.At w S A) (o : Obj) : t.At (w.alloc o) S A :=
  h.below ((Below.refl _ _).alloc (Nat.le_refl _) o)
end Sts
end Go.Proofs.YtaabhlkhddkglaaDoor

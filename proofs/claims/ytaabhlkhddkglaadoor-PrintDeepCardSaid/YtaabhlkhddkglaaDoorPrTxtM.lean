/- The text of an expression, as a function of the tree. Plain mathematics. No condition. -/
import Derived.Test.YtaabhlkhddkglaaDoorPrDec
import Derived.Test.YtaabhlkhddkglaaDoorPrSgn
namespace Go.Proofs.YtaabhlkhddkglaaDoor
open Go.RowKit Tk
set_option linter.unusedVariables false
/-- The text of a number in an expression. -/
def numB (n : Int) : ByteArray := if n < 0 then ⟨#[40]⟩ ++ itB n ++ ⟨#[41]⟩ else itB n
/-- The text of an expression whose arguments' texts are given. -/
def eTx (k n : Int) (s : ByteArray) (o : Int) (l : List ByteArray) : ByteArray :=
  if k = 1 then numB n else if k = 2 then s else if k = 3 then s ++ ⟨#[91]⟩ ++ l.getD 0 ⟨#[]⟩ ++ ⟨#[93]⟩
  else ⟨#[40]⟩ ++ l.getD 0 ⟨#[]⟩ ++ ⟨#[32]⟩ ++ sgnB o ++ ⟨#[32]⟩ ++ l.getD 1 ⟨#[]⟩ ++ ⟨#[41]⟩
namespace Exs
/-- The texts of the expressions of a list. -/
def txs : Exs → List ByteArray
  | nil => []
  | cons k n s o a r => eTx k n s o a.txs :: r.txs
/-- Every expression, at any depth, has the shape of its kind. -/
def sh : Exs → Prop
  | nil => True
  | cons k n s o a r => shB k n s o a.len = true ∧ a.sh ∧ r.sh
theorem sh.drop : ∀ {t : Exs} (_ : t.sh) (i : Nat), (t.drop i).sh
  | nil, _, 0 => trivial
  | nil, _, _ + 1 => trivial
  | cons .., h, 0 => h
  | cons _ _ _ _ _ r, h, i + 1 => sh.drop (t := r) h.2.2 i
theorem sh_of : ∀ (t : Exs) (m : Nat), t.height ≤ m → t.allTo shB m = true → t.sh
  | nil, _, _, _ => trivial
  | cons k n s o a r, 0, hh, _ => by simp [height] at hh
  | cons k n s o a r, m + 1, hh, h => by
    simp only [height] at hh
    simp only [allTo, Bool.and_eq_true] at h
    exact ⟨h.1.1, sh_of a m (by omega) h.1.2, sh_of r (m + 1) (by omega) h.2⟩
theorem allTo_of : ∀ (t : Exs) (m : Nat), t.sh → t.allTo shB m = true
  | nil, _, _ => by simp [allTo]
  | cons k n s o a r, 0, h => by simp [allTo, allTo_of r 0 h.2.2]
  | cons k n s o a r, m + 1, h => by
    simp only [allTo, Bool.and_eq_true]
    exact ⟨⟨h.1, allTo_of a m h.2.1⟩, allTo_of r (m + 1) h.2.2⟩
theorem txs_at : ∀ (t : Exs) (i : Nat) {k n o : Int} {s : ByteArray} {a r : Exs}, t.drop i = cons k n s o a r → t.txs.getD i ⟨#[]⟩ = eTx k n s o a.txs
  | nil, 0, _, _, _, _, _, _, h => by cases h
  | nil, _ + 1, _, _, _, _, _, _, h => by cases h
  | cons .., 0, _, _, _, _, _, _, h => by cases h; rfl
  | cons _ _ _ _ _ r, i + 1, _, _, _, _, _, _, h => by
    have := txs_at r i h
    simpa [txs] using this
end Exs
/-- What the shape says. -/
theorem sh_cases {k n o : Int} {s : ByteArray} {l : Nat} (h : shB k n s o l = true) :
    (k = 1 ∧ (-2147483647 ≤ n ∧ n ≤ 2147483647) ∧ s = ⟨#[]⟩ ∧ o = 0 ∧ l = 0) ∨ (k = 2 ∧ n = 0 ∧ nmB s = true ∧ o = 0 ∧ l = 0) ∨ (k = 3 ∧ n = 0 ∧ nmB s = true ∧ o = 0 ∧ l = 1) ∨ (k = 4 ∧ n = 0 ∧ s = ⟨#[]⟩ ∧ (1 ≤ o ∧ o ≤ 14) ∧ l = 2) := by
  unfold shB at h
  split at h
  · simp [sgB] at h
    exact .inl ⟨by assumption, h.1, (show s = ⟨#[]⟩ from h.2.1), h.2.2.1, h.2.2.2⟩
  split at h
  · simp at h
    exact .inr (.inl ⟨by assumption, h.2.1, h.1, h.2.2.1, h.2.2.2⟩)
  split at h
  · simp at h
    exact .inr (.inr (.inl ⟨by assumption, h.2.1, h.1, h.2.2.1, h.2.2.2⟩))
  split at h
  · simp at h
    refine .inr (.inr (.inr ⟨by assumption, h.2.1, (show s = ⟨#[]⟩ from h.2.2.1), ?_, h.2.2.2⟩))
    rcases Int.lt_or_le o 1 with h1 | h1
    · exfalso
      have : sgnB o = ⟨#[]⟩ := by unfold sgnB; split <;> first | omega | rfl
      rw [this] at h
      exact h.1 rfl
    · rcases Int.lt_or_le 14 o with h2 | h2
      · exfalso
        have : sgnB o = ⟨#[]⟩ := by unfold sgnB; split <;> first | omega | rfl
        rw [this] at h
        exact h.1 rfl
      · exact ⟨h1, h2⟩
  · cases h
theorem nm_size {s : ByteArray} (h : nmB s = true) : s.size ≤ 12 := by
  unfold nmB at h
  rw [Bool.and_eq_true] at h
  exact name_size h.1
theorem numB_size {n : Int} (h : -2147483647 ≤ n ∧ n ≤ 2147483647) : (numB n).size ≤ 13 := by
  have h2 := itB_size h
  unfold numB
  split
  · rw [ByteArray.size_append, ByteArray.size_append]
    show 1 + (itB n).size + 1 ≤ 13
    omega
  · omega
/-- A text is no longer than its height lets it be. -/
theorem txt_size (N : Nat) : ∀ (a : Exs) (k n o : Int) (s : ByteArray), a.height = N → shB k n s o a.len = true → a.sh → (eTx k n s o a.txs).size + 14 ≤ 30 * 2 ^ a.height := by
  induction N using Nat.strongRecOn with
  | _ N ih =>
    intro a k n o s hh hn hs
    have hp := Nat.one_le_two_pow (n := a.height)
    rcases sh_cases hn with ⟨rfl, hb, rfl, rfl, hl⟩ | ⟨rfl, rfl, hm, rfl, hl⟩ | ⟨rfl, rfl, hm, rfl, hl⟩ | ⟨rfl, rfl, rfl, ho, hl⟩
    · have := numB_size hb
      show (numB n).size + 14 ≤ _
      omega
    · have := nm_size hm
      show s.size + 14 ≤ _
      omega
    · obtain ⟨k0, n0, s0, o0, a0, r0, hd0⟩ : ∃ k n s o b r, a.drop 0 = .cons k n s o b r := by
        cases a with
        | nil => simp [Exs.len] at hl
        | cons k n s o a r => exact ⟨k, n, s, o, a, r, rfl⟩
      have hg := hs.drop 0
      have hh0 := Exs.drop_height a 0
      have ht := Exs.txs_at a 0 hd0
      rw [hd0] at hg hh0
      simp only [Exs.height] at hh0
      have h1 := ih a0.height (by omega) a0 k0 n0 o0 s0 rfl hg.1 hg.2.1
      rw [← ht] at h1
      have h2 := nm_size hm
      have : 2 ^ (a0.height + 1) ≤ 2 ^ a.height := Nat.pow_le_pow_right (by omega) (by omega)
      rw [Nat.pow_succ] at this
      have hp0 := Nat.one_le_two_pow (n := a0.height)
      show (s ++ ⟨#[91]⟩ ++ a.txs.getD 0 ⟨#[]⟩ ++ ⟨#[93]⟩).size + 14 ≤ _
      rw [ByteArray.size_append, ByteArray.size_append, ByteArray.size_append]
      show s.size + 1 + (a.txs.getD 0 ⟨#[]⟩).size + 1 + 14 ≤ _
      omega
    · obtain ⟨k0, n0, s0, o0, a0, r0, hd0⟩ : ∃ k n s o b r, a.drop 0 = .cons k n s o b r := by
        cases a with
        | nil => simp [Exs.len] at hl
        | cons k n s o a r => exact ⟨k, n, s, o, a, r, rfl⟩
      obtain ⟨k1, n1, s1, o1, a1, r1, hd1⟩ : ∃ k n s o b r, a.drop 1 = .cons k n s o b r := by
        cases a with
        | nil => simp [Exs.len] at hl
        | cons k n s o a r =>
          cases r with
          | nil => simp [Exs.len] at hl
          | cons k n s o a r => exact ⟨k, n, s, o, a, r, rfl⟩
      have hg := hs.drop 0
      have hh0 := Exs.drop_height a 0
      have ht := Exs.txs_at a 0 hd0
      rw [hd0] at hg hh0
      have hg1 := hs.drop 1
      have hh1 := Exs.drop_height a 1
      have ht1 := Exs.txs_at a 1 hd1
      rw [hd1] at hg1 hh1
      simp only [Exs.height] at hh0 hh1
      have h1 := ih a0.height (by omega) a0 k0 n0 o0 s0 rfl hg.1 hg.2.1
      rw [← ht] at h1
      have h2 := ih a1.height (by omega) a1 k1 n1 o1 s1 rfl hg1.1 hg1.2.1
      rw [← ht1] at h2
      have h3 := sgn_size o
      have p0 : 2 ^ (a0.height + 1) ≤ 2 ^ a.height := Nat.pow_le_pow_right (by omega) (by omega)
      rw [Nat.pow_succ] at p0
      have p1 : 2 ^ (a1.height + 1) ≤ 2 ^ a.height := Nat.pow_le_pow_right (by omega) (by omega)
      rw [Nat.pow_succ] at p1
      show (⟨#[40]⟩ ++ a.txs.getD 0 ⟨#[]⟩ ++ ⟨#[32]⟩ ++ sgnB o ++ ⟨#[32]⟩ ++ a.txs.getD 1 ⟨#[]⟩ ++ ⟨#[41]⟩).size + 14 ≤ _
      simp only [ByteArray.size_append]
      show 1 + (a.txs.getD 0 ⟨#[]⟩).size + 1 + (sgnB o).size + 1 + (a.txs.getD 1 ⟨#[]⟩).size + 1 + 14 ≤ _
      omega
theorem cat2 (a b : ByteArray) (h : a.size + b.size ≤ 100000) : ∃ r : ByteArray, r = a ++ b ∧ r.size = a.size + b.size ∧ ∀ W : World, (Op.stringOp .add a b).run Tryd.prog W = .ok (.string r) W :=
  ⟨a ++ b, rfl, ByteArray.size_append, cat' a b h⟩
theorem pow_le7 {h : Nat} (hh : h ≤ 7) : 2 ^ h ≤ 128 := Nat.le_trans (Nat.pow_le_pow_right (by omega) hh) (by decide)
end Go.Proofs.YtaabhlkhddkglaaDoor

/- Rows of terms of the call's own, and slices.Clone. No condition. -/
import Derived.Test.YtpinncjnfbebkaaFcSort
import Derived.Test.YtpinncjnfbebkaaFcFind
import Derived.Test.YtpinncjnfbebkaaFcAlg
import Derived.Test.YtpinncjnfbebkaaFaSome
import Derived.Lib.SliceRun
namespace Go.Proofs.Ytpinncjnfbebkaa
open Go.RowKit
set_option linter.unusedVariables false
set_option linter.unusedSimpArgs false
attribute [local go_sem] y_undef
theorem set_both : ∀ (l : Fa.Tms) (i : Nat) (x y : Int), ((l.flatMap prCells).set (i * 2) (.int .i64 x)).set (i * 2 + 1) (.int .i64 y) = (l.set i (x, y)).flatMap prCells
  | [], i, x, y => by simp
  | t :: r, 0, x, y => by simp [prCells]
  | t :: r, i + 1, x, y => by
    have ih := set_both r i x y
    rw [show (i + 1) * 2 = i * 2 + 1 + 1 by omega, List.set_cons_succ, List.flatMap_cons, List.flatMap_cons, ← ih]
    simp [prCells]
theorem set_coef (l : Fa.Tms) (i : Nat) (hi : i < l.length) (y : Int) : (l.flatMap prCells).set (i * 2 + 1) (.int .i64 y) = (l.set i ((l.getD i (0, 0)).1, y)).flatMap prCells := by
  rw [← set_both]
  congr 1
  have h := flat_cell prCells 2 (fun _ => rfl) l i 0 (l.getD i (0, 0)) (.int .i64 (l.getD i (0, 0)).1) (by simp [List.getD, List.getElem?_eq_getElem hi]) rfl
  rw [Nat.add_zero] at h
  obtain ⟨h1, h2⟩ := List.getElem?_eq_some_iff.1 h
  rw [← h2, List.set_getElem_self]
section
variable {w : World} {base e g n cap : Nat} {l : Fa.Tms}
theorem own_len (h : w.ownsRow base e 2 (.slice (some ⟨g, 0, none⟩) n cap) n (l.flatMap prCells)) : l.length = n := by
  have := h.1
  rw [flat_length prCells 2 (fun _ => rfl)] at this
  omega
theorem own_cells (h : w.ownsRow base e 2 (.slice (some ⟨g, 0, none⟩) n cap) n (l.flatMap prCells)) {i : Nat} (hi : i < n) : w.cell? ⟨g, i * 2, none⟩ = some (.int .i64 (l.getD i (0, 0)).1) ∧ w.cell? ⟨g, i * 2 + 1, none⟩ = some (.int .i64 (l.getD i (0, 0)).2) := by
  have hl := own_len h
  have hx : l[i]? = some (l.getD i (0, 0)) := by simp [List.getD, List.getElem?_eq_getElem (show i < l.length by omega)]
  constructor
  · rw [h.cellAt _ (by omega)]
    have := flat_cell prCells 2 (fun _ => rfl) l i 0 _ (.int .i64 (l.getD i (0, 0)).1) hx rfl
    simpa using this
  · rw [h.cellAt _ (by omega)]
    exact flat_cell prCells 2 (fun _ => rfl) l i 1 _ (.int .i64 (l.getD i (0, 0)).2) hx rfl
theorem own_both (h : w.ownsRow base e 2 (.slice (some ⟨g, 0, none⟩) n cap) n (l.flatMap prCells)) (i : Nat) (x y : Int) :
    ((w.setCell ⟨g, i * 2, none⟩ (.int .i64 x)).setCell ⟨g, i * 2 + 1, none⟩ (.int .i64 y)).ownsRow base e 2 (.slice (some ⟨g, 0, none⟩) n cap) n ((l.set i (x, y)).flatMap prCells) ∧ w.grownBy ((w.setCell ⟨g, i * 2, none⟩ (.int .i64 x)).setCell ⟨g, i * 2 + 1, none⟩ (.int .i64 y)) (some g) := by
  have h1 := h.stored (i * 2) (.int .i64 x)
  have h2 := h1.1.stored (i * 2 + 1) (.int .i64 y)
  rw [set_both] at h2
  exact ⟨h2.1, grown_trans h1.2 h2.2⟩
theorem own_coef (h : w.ownsRow base e 2 (.slice (some ⟨g, 0, none⟩) n cap) n (l.flatMap prCells)) {i : Nat} (hi : i < n) (y : Int) :
    (w.setCell ⟨g, i * 2 + 1, none⟩ (.int .i64 y)).ownsRow base e 2 (.slice (some ⟨g, 0, none⟩) n cap) n ((l.set i ((l.getD i (0, 0)).1, y)).flatMap prCells) ∧ w.grownBy (w.setCell ⟨g, i * 2 + 1, none⟩ (.int .i64 y)) (some g) := by
  have h1 := h.stored (i * 2 + 1) (.int .i64 y)
  rw [set_coef l i (by have := own_len h; omega)] at h1
  exact h1
theorem own_cut {xs : List Value} (h : w.ownsRow base e 2 (.slice (some ⟨g, 0, none⟩) n cap) n xs) {i : Nat} (hi : i ≤ n) : w.ownsRow base e 2 (.slice (some ⟨g, 0, none⟩) i cap) i (xs.take (i * 2)) := by
  have hx := h.1
  rcases h.2 with ⟨h', _⟩ | ⟨g', cap', cur, h', hb, hg, hnc, hcm, hcs, htake⟩
  · simp at h'
  · simp only [Value.slice.injEq, Option.some.injEq, Addr.mk.injEq, and_true, true_and] at h'
    obtain ⟨rfl, rfl⟩ := h'
    refine ⟨by rw [List.length_take]; omega, .inr ⟨g, cap, cur, rfl, hb, hg, by omega, hcm, hcs, ?_⟩⟩
    rw [← htake, List.take_take, Nat.min_eq_left (by omega)]
theorem own_high : ∀ (zs : List Value) {w : World} {xs : List Value} (j : Nat), w.ownsRow base e 2 (.slice (some ⟨g, 0, none⟩) n cap) n xs → n * 2 ≤ j → (w.setCells g j zs).ownsRow base e 2 (.slice (some ⟨g, 0, none⟩) n cap) n xs ∧ w.grownBy (w.setCells g j zs) (some g)
  | [], w, xs, j, h, _ => ⟨h, World.grownBy.refl _ _⟩
  | z :: zs, w, xs, j, h, hj => by
    have h1 := h.stored j z
    rw [List.set_eq_of_length_le (by rw [h.1]; exact hj)] at h1
    have h2 := own_high zs (j + 1) h1.1 (by omega)
    exact ⟨h2.1, grown_trans h1.2 h2.2⟩
end
theorem sl_none (w : World) (A : Option Addr) (n c : Nat) : (binOp .eql 28 (.slice A n c) (.slice none 0 0)).run Try.prog w = .ok (.bool A.isNone) w := Lib.run_eql_slice_nil w _ _ A n c 0 0 Try.underlying28
set_option maxHeartbeats 2000000 in
set_option maxRecDepth 100000 in
theorem fclone_any (l : Fa.Tms) (v : Value) (w : World) (hv : PrsIn w v l) (hm : l.length ≤ 1048576) :
    Calls Try.prog 56 #[v] w fun e w' => ∃ v', e = .returned v' ∧ w'.ownsRow w.heap.size 36 2 v' l.length (l.flatMap prCells) ∧ Below w.heap.size w w' := by
  obtain ⟨A, c, rfl, hl, hcs⟩ := hv
  obtain ⟨iT, hi0, hz0, hz1, hz2⟩ := info_parts Try.infoTm
  have HIT := Lib.hid (And.intro hi0 (And.intro hz0 (And.intro hz1 hz2)))
  clear hi0 hz0 hz1 hz2
  have hq := sl_none
  have H1 := Lib.hid (show ∀ u ∈ l.flatMap prCells, u.oneCell' = true by
    intro u hu
    obtain ⟨t, _, ht⟩ := List.mem_flatMap.1 hu
    simp [prCells] at ht
    rcases ht with rfl | rfl <;> rfl)
  cases A with
  | none =>
    have h0 : l.length = 0 := by
      rcases hcs with h | ⟨b, off, e, _⟩
      · exact h
      · exact absurd e (by simp)
    have e0 : l = [] := List.eq_nil_of_length_eq_zero h0
    subst e0
    go_enter Try.func56, Try.ntmps56
    go_wp2
    go_ret
    exact ⟨_, rfl, World.ownsRow_nil _ _ _ _, Below.refl _ _⟩
  | some ad =>
    have HC := Lib.hid (show ∀ j u, (l.flatMap prCells)[j]? = some u → (w.alloc (.cells #[] 36)).cell? (ad.add j) = some u by
      intro j u hj
      rcases hcs with h | ⟨b, off, e, hlt, h⟩
      · have e0 : l = [] := List.eq_nil_of_length_eq_zero h
        subst e0
        simp at hj
      · injection e with e
        subst e
        have := h j u hj
        rw [show (⟨b, off, none⟩ : Addr).add j = ⟨b, off + j, none⟩ from by unfold Addr.add; split <;> simp_all]
        exact Lib.cell?_alloc_some _ this)
    have HL := Lib.hid hl
    obtain ⟨n, hn⟩ : ∃ n, l.length = n := ⟨_, rfl⟩
    rw [hn] at hm HL ⊢
    clear hn hcs hl
    go_enter Try.func56, Try.ntmps56
    go_wp2_with (at_builtin; refine wpList_append_own _ rfl _ _ 28 rfl w.heap.size 36 iT _ 2 16 Try.underlying28 HIT.out.1 HIT.out.2.1 HIT.out.2.2.1 HIT.out.2.2.2 rfl (by decide) _ _ _ rfl (World.ownsRow_made w #[] 0 (Nat.le_refl _) (Nat.zero_le _) (by simp)) ad n c (l.flatMap prCells) rfl ?qc1 ?qc2 ?qc3 ?qc4 ?qc5 ?qc6 ?_)
    case qc1 => exact HL.out
    case qc2 => exact HC.out
    case qc3 => exact H1.out
    case qc4 => unfold maxLen; omega
    case qc5 => omega
    case qc6 => simp
    intro v' w1 hown hgrow hnil
    go_wp2
    go_ret
    refine ⟨v', rfl, by simpa using hown, ?_⟩
    exact ((Below.refl _ w).alloc (Nat.le_refl _) _).grown hgrow (by simp) (by intro k hk; simp [Value.ownBlock] at hk; omega)
end Go.Proofs.Ytpinncjnfbebkaa

/- slices.Clone, of a graph's rows. No condition. -/
import Derived.Test.YtojnhdkclabkgaaGrMem
import Derived.Laws.AppendOwnNone
import Derived.Laws.MakeOwn
import Derived.Laws.OwnMore
import Derived.Lib.SliceRun
namespace Go.Proofs.Ytojnhdkclabkgaa
open Go.RowKit
set_option linter.unusedVariables false
set_option linter.unusedSimpArgs false
attribute [local go_sem] y_undef
/-- A row of its own is a row, with a capacity. -/
theorem own_in {w : World} {base : Nat} {e : TypeId} {size n : Nat} {v : Value} {xs : List Value} (h : w.ownsRow base e size v n xs) : RowIn size w v n xs ∧ ∃ A c, v = .slice A n c ∧ n ≤ c ∧ c ≤ maxLen ∧ (0 < n → ∃ g, A = some ⟨g, 0, none⟩) := by
  have hl := h.1
  rcases id h.2 with ⟨e0, hn⟩ | ⟨g, cap, cur, e0, hb, hg, hnc, hcm, hcs, ht⟩
  · obtain ⟨rfl, _⟩ : n = 0 ∧ True := by
      first | exact ⟨hn, trivial⟩ | (simp_all)
    exact ⟨⟨none, 0, e0, hl, .inl rfl⟩, none, 0, e0, Nat.le_refl _, by unfold maxLen; omega, fun h => by omega⟩
  · subst e0
    have hlt : g < w.heap.size := (h.lt g (by simp [Value.ownBlock])).2
    refine ⟨⟨_, cap, rfl, hl, .inr ⟨g, 0, rfl, hlt, fun j u hj => ?_⟩⟩, _, cap, rfl, hnc, hcm, fun _ => ⟨g, rfl⟩⟩
    rw [Nat.zero_add]
    have hjl : j < xs.length := by
      rcases Nat.lt_or_ge j xs.length with h' | h'
      · exact h'
      · rw [List.getElem?_eq_none h'] at hj; cases hj
    rw [h.cellAt j (by omega)]
    exact hj
/-- What Clone answers. -/
def ClonePost (size : Nat) (t : TypeId) (n : Nat) (xs : List Value) (w : World) (e : Ending) (w' : World) : Prop := ∃ v', e = .returned v' ∧ w'.ownsRow w.heap.size t size v' n xs ∧ Below w.heap.size w w'
theorem info_nums : (Try.prog.info? 3).map (fun i => (i.zero, i.size, i.bytes)) = some (some (.int .i64 0), 1, 8) := by kernel_rfl
theorem nil_nums (w : World) (A : Option Addr) (n c : Nat) : (binOp .eql 32 (.slice A n c) (.slice none 0 0)).run Try.prog w = .ok (.bool A.isNone) w := Lib.run_eql_slice_nil w _ _ A n c 0 0 Try.underlying32
set_option maxHeartbeats 2000000 in
set_option maxRecDepth 100000 in
theorem clone_nums (n : Nat) (xs : List Value) (v : Value) (w : World) (hv : RowIn 1 w v n xs) (h1 : ∀ u ∈ xs, u.oneCell' = true) (hm : n ≤ 140737488355328 / 32) :
    Calls Try.prog 22 #[v] w (ClonePost 1 3 n xs w) := by
  obtain ⟨A, c, rfl, hl, hcs⟩ := hv
  obtain ⟨iT, hi0, hz0, hz1, hz2⟩ := info_parts info_nums
  have HIT := Lib.hid (And.intro hi0 (And.intro hz0 (And.intro hz1 hz2)))
  clear hi0 hz0 hz1 hz2
  have hq := nil_nums
  have H1 := Lib.hid h1
  have HM := Lib.hid hm
  clear h1 hm
  unfold ClonePost
  cases A with
  | none =>
    have h0 : n = 0 := by
      rcases hcs with h | ⟨b, off, e, _⟩
      · exact h
      · exact absurd e (by simp)
    subst h0
    have e0 : xs = [] := List.eq_nil_of_length_eq_zero (by omega)
    subst e0
    go_enter Try.func22, Try.ntmps22
    go_wp2
    go_ret
    exact ⟨_, rfl, World.ownsRow_nil _ _ _ _, Below.refl _ _⟩
  | some ad =>
    have HC := Lib.hid (show ∀ j u, xs[j]? = some u → (w.alloc (.cells #[] 3)).cell? (ad.add j) = some u by
      intro j u hj
      rcases hcs with h | ⟨b, off, e, hlt, h⟩
      · have e0 : xs = [] := List.eq_nil_of_length_eq_zero (by rw [hl, h])
        subst e0
        simp at hj
      · injection e with e
        subst e
        have := h j u hj
        rw [show (⟨b, off, none⟩ : Addr).add j = ⟨b, off + j, none⟩ from by unfold Addr.add; split <;> simp_all]
        exact Lib.cell?_alloc_some _ this)
    have HL := Lib.hid hl
    clear hcs hl
    go_enter Try.func22, Try.ntmps22
    go_wp2_with (at_builtin; refine wpList_append_own _ rfl _ _ 32 rfl w.heap.size 3 iT _ 1 8 Try.underlying32 HIT.out.1 HIT.out.2.1 HIT.out.2.2.1 HIT.out.2.2.2 rfl (by decide) _ _ _ rfl (World.ownsRow_made w #[] 0 (Nat.le_refl _) (Nat.zero_le _) (by simp)) ad n c xs rfl ?qc1 ?qc2 ?qc3 ?qc4 ?qc5 ?qc6 ?_)
    case qc1 => exact HL.out
    case qc2 => exact HC.out
    case qc3 => exact H1.out
    case qc4 => have := HM.out; unfold maxLen; omega
    case qc5 => have := HM.out; omega
    case qc6 => simp
    intro v' w1 hown hgrow hnil
    go_wp2
    go_ret
    refine ⟨v', rfl, by simpa using hown, ?_⟩
    exact ((Below.refl _ w).alloc (Nat.le_refl _) _).grown hgrow (by simp) (by intro k hk; simp [Value.ownBlock] at hk; omega)
theorem info_ins : (Try.prog.info? 57).map (fun i => (i.zero, i.size, i.bytes)) = some (some (.agg #[.string ⟨#[]⟩, .int .i64 0, .int .i64 0]), 3, 32) := by kernel_rfl
theorem nil_ins (w : World) (A : Option Addr) (n c : Nat) : (binOp .eql 36 (.slice A n c) (.slice none 0 0)).run Try.prog w = .ok (.bool A.isNone) w := Lib.run_eql_slice_nil w _ _ A n c 0 0 Try.underlying36
set_option maxHeartbeats 2000000 in
set_option maxRecDepth 100000 in
theorem clone_ins (n : Nat) (xs : List Value) (v : Value) (w : World) (hv : RowIn 3 w v n xs) (h1 : ∀ u ∈ xs, u.oneCell' = true) (hm : n ≤ 140737488355328 / 32) :
    Calls Try.prog 19 #[v] w (ClonePost 3 57 n xs w) := by
  obtain ⟨A, c, rfl, hl, hcs⟩ := hv
  obtain ⟨iT, hi0, hz0, hz1, hz2⟩ := info_parts info_ins
  have HIT := Lib.hid (And.intro hi0 (And.intro hz0 (And.intro hz1 hz2)))
  clear hi0 hz0 hz1 hz2
  have hq := nil_ins
  have H1 := Lib.hid h1
  have HM := Lib.hid hm
  clear h1 hm
  unfold ClonePost
  cases A with
  | none =>
    have h0 : n = 0 := by
      rcases hcs with h | ⟨b, off, e, _⟩
      · exact h
      · exact absurd e (by simp)
    subst h0
    have e0 : xs = [] := List.eq_nil_of_length_eq_zero (by omega)
    subst e0
    go_enter Try.func19, Try.ntmps19
    go_wp2
    go_ret
    exact ⟨_, rfl, World.ownsRow_nil _ _ _ _, Below.refl _ _⟩
  | some ad =>
    have HC := Lib.hid (show ∀ j u, xs[j]? = some u → (w.alloc (.cells #[] 57)).cell? (ad.add j) = some u by
      intro j u hj
      rcases hcs with h | ⟨b, off, e, hlt, h⟩
      · have e0 : xs = [] := List.eq_nil_of_length_eq_zero (by rw [hl, h])
        subst e0
        simp at hj
      · injection e with e
        subst e
        have := h j u hj
        rw [show (⟨b, off, none⟩ : Addr).add j = ⟨b, off + j, none⟩ from by unfold Addr.add; split <;> simp_all]
        exact Lib.cell?_alloc_some _ this)
    have HL := Lib.hid hl
    clear hcs hl
    go_enter Try.func19, Try.ntmps19
    go_wp2_with (at_builtin; refine wpList_append_own _ rfl _ _ 36 rfl w.heap.size 57 iT _ 3 32 Try.underlying36 HIT.out.1 HIT.out.2.1 HIT.out.2.2.1 HIT.out.2.2.2 rfl (by decide) _ _ _ rfl (World.ownsRow_made w #[] 0 (Nat.le_refl _) (Nat.zero_le _) (by simp)) ad n c xs rfl ?qc1 ?qc2 ?qc3 ?qc4 ?qc5 ?qc6 ?_)
    case qc1 => exact HL.out
    case qc2 => exact HC.out
    case qc3 => exact H1.out
    case qc4 => have := HM.out; unfold maxLen; omega
    case qc5 => have := HM.out; omega
    case qc6 => simp
    intro v' w1 hown hgrow hnil
    go_wp2
    go_ret
    refine ⟨v', rfl, by simpa using hown, ?_⟩
    exact ((Below.refl _ w).alloc (Nat.le_refl _) _).grown hgrow (by simp) (by intro k hk; simp [Value.ownBlock] at hk; omega)
theorem info_ars : (Try.prog.info? 30).map (fun i => (i.zero, i.size, i.bytes)) = some (some (.agg #[.string ⟨#[]⟩, .int .i64 0]), 2, 24) := by kernel_rfl
theorem nil_ars (w : World) (A : Option Addr) (n c : Nat) : (binOp .eql 31 (.slice A n c) (.slice none 0 0)).run Try.prog w = .ok (.bool A.isNone) w := Lib.run_eql_slice_nil w _ _ A n c 0 0 Try.underlying31
set_option maxHeartbeats 2000000 in
set_option maxRecDepth 100000 in
theorem clone_ars (n : Nat) (xs : List Value) (v : Value) (w : World) (hv : RowIn 2 w v n xs) (h1 : ∀ u ∈ xs, u.oneCell' = true) (hm : n ≤ 140737488355328 / 32) :
    Calls Try.prog 20 #[v] w (ClonePost 2 30 n xs w) := by
  obtain ⟨A, c, rfl, hl, hcs⟩ := hv
  obtain ⟨iT, hi0, hz0, hz1, hz2⟩ := info_parts info_ars
  have HIT := Lib.hid (And.intro hi0 (And.intro hz0 (And.intro hz1 hz2)))
  clear hi0 hz0 hz1 hz2
  have hq := nil_ars
  have H1 := Lib.hid h1
  have HM := Lib.hid hm
  clear h1 hm
  unfold ClonePost
  cases A with
  | none =>
    have h0 : n = 0 := by
      rcases hcs with h | ⟨b, off, e, _⟩
      · exact h
      · exact absurd e (by simp)
    subst h0
    have e0 : xs = [] := List.eq_nil_of_length_eq_zero (by omega)
    subst e0
    go_enter Try.func20, Try.ntmps20
    go_wp2
    go_ret
    exact ⟨_, rfl, World.ownsRow_nil _ _ _ _, Below.refl _ _⟩
  | some ad =>
    have HC := Lib.hid (show ∀ j u, xs[j]? = some u → (w.alloc (.cells #[] 30)).cell? (ad.add j) = some u by
      intro j u hj
      rcases hcs with h | ⟨b, off, e, hlt, h⟩
      · have e0 : xs = [] := List.eq_nil_of_length_eq_zero (by rw [hl, h])
        subst e0
        simp at hj
      · injection e with e
        subst e
        have := h j u hj
        rw [show (⟨b, off, none⟩ : Addr).add j = ⟨b, off + j, none⟩ from by unfold Addr.add; split <;> simp_all]
        exact Lib.cell?_alloc_some _ this)
    have HL := Lib.hid hl
    clear hcs hl
    go_enter Try.func20, Try.ntmps20
    go_wp2_with (at_builtin; refine wpList_append_own _ rfl _ _ 31 rfl w.heap.size 30 iT _ 2 24 Try.underlying31 HIT.out.1 HIT.out.2.1 HIT.out.2.2.1 HIT.out.2.2.2 rfl (by decide) _ _ _ rfl (World.ownsRow_made w #[] 0 (Nat.le_refl _) (Nat.zero_le _) (by simp)) ad n c xs rfl ?qc1 ?qc2 ?qc3 ?qc4 ?qc5 ?qc6 ?_)
    case qc1 => exact HL.out
    case qc2 => exact HC.out
    case qc3 => exact H1.out
    case qc4 => have := HM.out; unfold maxLen; omega
    case qc5 => have := HM.out; omega
    case qc6 => simp
    intro v' w1 hown hgrow hnil
    go_wp2
    go_ret
    refine ⟨v', rfl, by simpa using hown, ?_⟩
    exact ((Below.refl _ w).alloc (Nat.le_refl _) _).grown hgrow (by simp) (by intro k hk; simp [Value.ownBlock] at hk; omega)
theorem info_hds : (Try.prog.info? 52).map (fun i => (i.zero, i.size, i.bytes)) = some (some (.agg #[.int .i64 0, .int .i64 0]), 2, 16) := by kernel_rfl
theorem nil_hds (w : World) (A : Option Addr) (n c : Nat) : (binOp .eql 38 (.slice A n c) (.slice none 0 0)).run Try.prog w = .ok (.bool A.isNone) w := Lib.run_eql_slice_nil w _ _ A n c 0 0 Try.underlying38
set_option maxHeartbeats 2000000 in
set_option maxRecDepth 100000 in
theorem clone_hds (n : Nat) (xs : List Value) (v : Value) (w : World) (hv : RowIn 2 w v n xs) (h1 : ∀ u ∈ xs, u.oneCell' = true) (hm : n ≤ 140737488355328 / 32) :
    Calls Try.prog 21 #[v] w (ClonePost 2 52 n xs w) := by
  obtain ⟨A, c, rfl, hl, hcs⟩ := hv
  obtain ⟨iT, hi0, hz0, hz1, hz2⟩ := info_parts info_hds
  have HIT := Lib.hid (And.intro hi0 (And.intro hz0 (And.intro hz1 hz2)))
  clear hi0 hz0 hz1 hz2
  have hq := nil_hds
  have H1 := Lib.hid h1
  have HM := Lib.hid hm
  clear h1 hm
  unfold ClonePost
  cases A with
  | none =>
    have h0 : n = 0 := by
      rcases hcs with h | ⟨b, off, e, _⟩
      · exact h
      · exact absurd e (by simp)
    subst h0
    have e0 : xs = [] := List.eq_nil_of_length_eq_zero (by omega)
    subst e0
    go_enter Try.func21, Try.ntmps21
    go_wp2
    go_ret
    exact ⟨_, rfl, World.ownsRow_nil _ _ _ _, Below.refl _ _⟩
  | some ad =>
    have HC := Lib.hid (show ∀ j u, xs[j]? = some u → (w.alloc (.cells #[] 52)).cell? (ad.add j) = some u by
      intro j u hj
      rcases hcs with h | ⟨b, off, e, hlt, h⟩
      · have e0 : xs = [] := List.eq_nil_of_length_eq_zero (by rw [hl, h])
        subst e0
        simp at hj
      · injection e with e
        subst e
        have := h j u hj
        rw [show (⟨b, off, none⟩ : Addr).add j = ⟨b, off + j, none⟩ from by unfold Addr.add; split <;> simp_all]
        exact Lib.cell?_alloc_some _ this)
    have HL := Lib.hid hl
    clear hcs hl
    go_enter Try.func21, Try.ntmps21
    go_wp2_with (at_builtin; refine wpList_append_own _ rfl _ _ 38 rfl w.heap.size 52 iT _ 2 16 Try.underlying38 HIT.out.1 HIT.out.2.1 HIT.out.2.2.1 HIT.out.2.2.2 rfl (by decide) _ _ _ rfl (World.ownsRow_made w #[] 0 (Nat.le_refl _) (Nat.zero_le _) (by simp)) ad n c xs rfl ?qc1 ?qc2 ?qc3 ?qc4 ?qc5 ?qc6 ?_)
    case qc1 => exact HL.out
    case qc2 => exact HC.out
    case qc3 => exact H1.out
    case qc4 => have := HM.out; unfold maxLen; omega
    case qc5 => have := HM.out; omega
    case qc6 => simp
    intro v' w1 hown hgrow hnil
    go_wp2
    go_ret
    refine ⟨v', rfl, by simpa using hown, ?_⟩
    exact ((Below.refl _ w).alloc (Nat.le_refl _) _).grown hgrow (by simp) (by intro k hk; simp [Value.ownBlock] at hk; omega)
end Go.Proofs.Ytojnhdkclabkgaa

/- slices.Clone, of a graph's rows. No condition. What folding keeps: operations that a graph can have. No condition. Rows of operations that a call makes, and the state of fold's loop. No condition. -/
import Derived.Test.YtojflhkmonicoaaGreatGrMem
import Derived.Laws.AppendOwnNone
import Derived.Laws.MakeOwn
import Derived.Laws.OwnMore
import Derived.Lib.SliceRun
import Derived.Test.YtojflhkmonicoaaGreatFoB
import Derived.Test.YtojflhkmonicoaaGreatGrParts
import Derived.Test.YtojflhkmonicoaaGreatFoBranch
namespace Go.Proofs.YtojflhkmonicoaaGreat
open Go.RowKit
set_option linter.unusedVariables false
set_option linter.unusedSimpArgs false
attribute [local go_sem] y_undef
/-- A row of its own is a row, with a capacity. -/
theorem own_in {w : World} {base : Nat} {e : TypeId} {size n : Nat} {v : Value} {xs : List Value} (h : w.ownsRow base e size v n xs) : RowIn size w v n xs ∧ ∃ A c, v = .slice A n c ∧ n ≤ c ∧ c ≤ maxLen ∧ (0 < n → ∃ g, A = some ⟨g, 0, none⟩) := by
  have hl := h.1
  rcases id h.2 with ⟨e0, hn⟩ | ⟨g, cap, cur, e0, hb, hg, hnc, hcm, hcs, ht⟩
  · obtain ⟨rfl, _⟩ : n = 0 ∧ True := by
      first | exact ⟨hn, trivial⟩ | (simp_all)
    exact ⟨⟨none, 0, e0, hl, .inl rfl⟩, none, 0, e0, Nat.le_refl _, by unfold maxLen; omega, fun h => by omega⟩
  · subst e0
    have hlt : g < w.heap.size := (h.lt g (by simp [Value.ownBlock])).2
    refine ⟨⟨_, cap, rfl, hl, .inr ⟨g, 0, rfl, hlt, fun j u hj => ?_⟩⟩, _, cap, rfl, hnc, hcm, fun _ => ⟨g, rfl⟩⟩
    rw [Nat.zero_add]
    have hjl : j < xs.length := by
      rcases Nat.lt_or_ge j xs.length with h' | h'
      · exact h'
      · rw [List.getElem?_eq_none h'] at hj; cases hj
    rw [h.cellAt j (by omega)]
    exact hj
/-- What Clone answers. -/
def ClonePost (size : Nat) (t : TypeId) (n : Nat) (xs : List Value) (w : World) (e : Ending) (w' : World) : Prop := ∃ v', e = .returned v' ∧ w'.ownsRow w.heap.size t size v' n xs ∧ Below w.heap.size w w'
theorem info_nums : (Tryz.prog.info? 3).map (fun i => (i.zero, i.size, i.bytes)) = some (some (.int .i64 0), 1, 8) := by kernel_rfl
theorem nil_nums (w : World) (A : Option Addr) (n c : Nat) : (binOp .eql 38 (.slice A n c) (.slice none 0 0)).run Tryz.prog w = .ok (.bool A.isNone) w := Lib.run_eql_slice_nil w _ _ A n c 0 0 Tryz.underlying38
set_option maxHeartbeats 2000000 in
set_option maxRecDepth 100000 in
theorem clone_nums (n : Nat) (xs : List Value) (v : Value) (w : World) (hv : RowIn 1 w v n xs) (h1 : ∀ u ∈ xs, u.oneCell' = true) (hm : n ≤ 140737488355328 / 32) :
    Calls Tryz.prog 19 #[v] w (ClonePost 1 3 n xs w) := by
  obtain ⟨A, c, rfl, hl, hcs⟩ := hv
  obtain ⟨iT, hi0, hz0, hz1, hz2⟩ := info_parts info_nums
  have HIT := Lib.hid (And.intro hi0 (And.intro hz0 (And.intro hz1 hz2)))
  clear hi0 hz0 hz1 hz2
  have hq := nil_nums
  have H1 := Lib.hid h1
  have HM := Lib.hid hm
  clear h1 hm
  unfold ClonePost
  cases A with
  | none =>
    have h0 : n = 0 := by
      rcases hcs with h | ⟨b, off, e, _⟩
      · exact h
      · exact absurd e (by simp)
    subst h0
    have e0 : xs = [] := List.eq_nil_of_length_eq_zero (by omega)
    subst e0
    go_enter Tryz.func19, Tryz.ntmps19
    go_wp2
    go_ret
    exact ⟨_, rfl, World.ownsRow_nil _ _ _ _, Below.refl _ _⟩
  | some ad =>
    have HC := Lib.hid (show ∀ j u, xs[j]? = some u → (w.alloc (.cells #[] 3)).cell? (ad.add j) = some u by
      intro j u hj
      rcases hcs with h | ⟨b, off, e, hlt, h⟩
      · have e0 : xs = [] := List.eq_nil_of_length_eq_zero (by rw [hl, h])
        subst e0
        simp at hj
      · injection e with e
        subst e
        have := h j u hj
        rw [show (⟨b, off, none⟩ : Addr).add j = ⟨b, off + j, none⟩ from by unfold Addr.add; split <;> simp_all]
        exact Lib.cell?_alloc_some _ this)
    have HL := Lib.hid hl
    clear hcs hl
    go_enter Tryz.func19, Tryz.ntmps19
    go_wp2_with (at_builtin; refine wpList_append_own _ rfl _ _ 38 rfl w.heap.size 3 iT _ 1 8 Tryz.underlying38 HIT.out.1 HIT.out.2.1 HIT.out.2.2.1 HIT.out.2.2.2 rfl (by decide) _ _ _ rfl (World.ownsRow_made w #[] 0 (Nat.le_refl _) (Nat.zero_le _) (by simp)) ad n c xs rfl ?qc1 ?qc2 ?qc3 ?qc4 ?qc5 ?qc6 ?_)
    case qc1 => exact HL.out
    case qc2 => exact HC.out
    case qc3 => exact H1.out
    case qc4 => have := HM.out; unfold maxLen; omega
    case qc5 => have := HM.out; omega
    case qc6 => simp
    intro v' w1 hown hgrow hnil
    go_wp2
    go_ret
    refine ⟨v', rfl, by simpa using hown, ?_⟩
    exact ((Below.refl _ w).alloc (Nat.le_refl _) _).grown hgrow (by simp) (by intro k hk; simp [Value.ownBlock] at hk; omega)
theorem info_ins : (Tryz.prog.info? 33).map (fun i => (i.zero, i.size, i.bytes)) = some (some (.agg #[.string ⟨#[]⟩, .int .i64 0, .int .i64 0]), 3, 32) := by kernel_rfl
theorem nil_ins (w : World) (A : Option Addr) (n c : Nat) : (binOp .eql 22 (.slice A n c) (.slice none 0 0)).run Tryz.prog w = .ok (.bool A.isNone) w := Lib.run_eql_slice_nil w _ _ A n c 0 0 Tryz.underlying22
set_option maxHeartbeats 2000000 in
set_option maxRecDepth 100000 in
theorem clone_ins (n : Nat) (xs : List Value) (v : Value) (w : World) (hv : RowIn 3 w v n xs) (h1 : ∀ u ∈ xs, u.oneCell' = true) (hm : n ≤ 140737488355328 / 32) :
    Calls Tryz.prog 16 #[v] w (ClonePost 3 33 n xs w) := by
  obtain ⟨A, c, rfl, hl, hcs⟩ := hv
  obtain ⟨iT, hi0, hz0, hz1, hz2⟩ := info_parts info_ins
  have HIT := Lib.hid (And.intro hi0 (And.intro hz0 (And.intro hz1 hz2)))
  clear hi0 hz0 hz1 hz2
  have hq := nil_ins
  have H1 := Lib.hid h1
  have HM := Lib.hid hm
  clear h1 hm
  unfold ClonePost
  cases A with
  | none =>
    have h0 : n = 0 := by
      rcases hcs with h | ⟨b, off, e, _⟩
      · exact h
      · exact absurd e (by simp)
    subst h0
    have e0 : xs = [] := List.eq_nil_of_length_eq_zero (by omega)
    subst e0
    go_enter Tryz.func16, Tryz.ntmps16
    go_wp2
    go_ret
    exact ⟨_, rfl, World.ownsRow_nil _ _ _ _, Below.refl _ _⟩
  | some ad =>
    have HC := Lib.hid (show ∀ j u, xs[j]? = some u → (w.alloc (.cells #[] 33)).cell? (ad.add j) = some u by
      intro j u hj
      rcases hcs with h | ⟨b, off, e, hlt, h⟩
      · have e0 : xs = [] := List.eq_nil_of_length_eq_zero (by rw [hl, h])
        subst e0
        simp at hj
      · injection e with e
        subst e
        have := h j u hj
        rw [show (⟨b, off, none⟩ : Addr).add j = ⟨b, off + j, none⟩ from by unfold Addr.add; split <;> simp_all]
        exact Lib.cell?_alloc_some _ this)
    have HL := Lib.hid hl
    clear hcs hl
    go_enter Tryz.func16, Tryz.ntmps16
    go_wp2_with (at_builtin; refine wpList_append_own _ rfl _ _ 22 rfl w.heap.size 33 iT _ 3 32 Tryz.underlying22 HIT.out.1 HIT.out.2.1 HIT.out.2.2.1 HIT.out.2.2.2 rfl (by decide) _ _ _ rfl (World.ownsRow_made w #[] 0 (Nat.le_refl _) (Nat.zero_le _) (by simp)) ad n c xs rfl ?qc1 ?qc2 ?qc3 ?qc4 ?qc5 ?qc6 ?_)
    case qc1 => exact HL.out
    case qc2 => exact HC.out
    case qc3 => exact H1.out
    case qc4 => have := HM.out; unfold maxLen; omega
    case qc5 => have := HM.out; omega
    case qc6 => simp
    intro v' w1 hown hgrow hnil
    go_wp2
    go_ret
    refine ⟨v', rfl, by simpa using hown, ?_⟩
    exact ((Below.refl _ w).alloc (Nat.le_refl _) _).grown hgrow (by simp) (by intro k hk; simp [Value.ownBlock] at hk; omega)
theorem info_ars : (Tryz.prog.info? 35).map (fun i => (i.zero, i.size, i.bytes)) = some (some (.agg #[.string ⟨#[]⟩, .int .i64 0]), 2, 24) := by kernel_rfl
theorem nil_ars (w : World) (A : Option Addr) (n c : Nat) : (binOp .eql 23 (.slice A n c) (.slice none 0 0)).run Tryz.prog w = .ok (.bool A.isNone) w := Lib.run_eql_slice_nil w _ _ A n c 0 0 Tryz.underlying23
set_option maxHeartbeats 2000000 in
set_option maxRecDepth 100000 in
theorem clone_ars (n : Nat) (xs : List Value) (v : Value) (w : World) (hv : RowIn 2 w v n xs) (h1 : ∀ u ∈ xs, u.oneCell' = true) (hm : n ≤ 140737488355328 / 32) :
    Calls Tryz.prog 17 #[v] w (ClonePost 2 35 n xs w) := by
  obtain ⟨A, c, rfl, hl, hcs⟩ := hv
  obtain ⟨iT, hi0, hz0, hz1, hz2⟩ := info_parts info_ars
  have HIT := Lib.hid (And.intro hi0 (And.intro hz0 (And.intro hz1 hz2)))
  clear hi0 hz0 hz1 hz2
  have hq := nil_ars
  have H1 := Lib.hid h1
  have HM := Lib.hid hm
  clear h1 hm
  unfold ClonePost
  cases A with
  | none =>
    have h0 : n = 0 := by
      rcases hcs with h | ⟨b, off, e, _⟩
      · exact h
      · exact absurd e (by simp)
    subst h0
    have e0 : xs = [] := List.eq_nil_of_length_eq_zero (by omega)
    subst e0
    go_enter Tryz.func17, Tryz.ntmps17
    go_wp2
    go_ret
    exact ⟨_, rfl, World.ownsRow_nil _ _ _ _, Below.refl _ _⟩
  | some ad =>
    have HC := Lib.hid (show ∀ j u, xs[j]? = some u → (w.alloc (.cells #[] 35)).cell? (ad.add j) = some u by
      intro j u hj
      rcases hcs with h | ⟨b, off, e, hlt, h⟩
      · have e0 : xs = [] := List.eq_nil_of_length_eq_zero (by rw [hl, h])
        subst e0
        simp at hj
      · injection e with e
        subst e
        have := h j u hj
        rw [show (⟨b, off, none⟩ : Addr).add j = ⟨b, off + j, none⟩ from by unfold Addr.add; split <;> simp_all]
        exact Lib.cell?_alloc_some _ this)
    have HL := Lib.hid hl
    clear hcs hl
    go_enter Tryz.func17, Tryz.ntmps17
    go_wp2_with (at_builtin; refine wpList_append_own _ rfl _ _ 23 rfl w.heap.size 35 iT _ 2 24 Tryz.underlying23 HIT.out.1 HIT.out.2.1 HIT.out.2.2.1 HIT.out.2.2.2 rfl (by decide) _ _ _ rfl (World.ownsRow_made w #[] 0 (Nat.le_refl _) (Nat.zero_le _) (by simp)) ad n c xs rfl ?qc1 ?qc2 ?qc3 ?qc4 ?qc5 ?qc6 ?_)
    case qc1 => exact HL.out
    case qc2 => exact HC.out
    case qc3 => exact H1.out
    case qc4 => have := HM.out; unfold maxLen; omega
    case qc5 => have := HM.out; omega
    case qc6 => simp
    intro v' w1 hown hgrow hnil
    go_wp2
    go_ret
    refine ⟨v', rfl, by simpa using hown, ?_⟩
    exact ((Below.refl _ w).alloc (Nat.le_refl _) _).grown hgrow (by simp) (by intro k hk; simp [Value.ownBlock] at hk; omega)
theorem info_hds : (Tryz.prog.info? 59).map (fun i => (i.zero, i.size, i.bytes)) = some (some (.agg #[.int .i64 0, .int .i64 0]), 2, 16) := by kernel_rfl
theorem nil_hds (w : World) (A : Option Addr) (n c : Nat) : (binOp .eql 26 (.slice A n c) (.slice none 0 0)).run Tryz.prog w = .ok (.bool A.isNone) w := Lib.run_eql_slice_nil w _ _ A n c 0 0 Tryz.underlying26
set_option maxHeartbeats 2000000 in
set_option maxRecDepth 100000 in
theorem clone_hds (n : Nat) (xs : List Value) (v : Value) (w : World) (hv : RowIn 2 w v n xs) (h1 : ∀ u ∈ xs, u.oneCell' = true) (hm : n ≤ 140737488355328 / 32) :
    Calls Tryz.prog 18 #[v] w (ClonePost 2 59 n xs w) := by
  obtain ⟨A, c, rfl, hl, hcs⟩ := hv
  obtain ⟨iT, hi0, hz0, hz1, hz2⟩ := info_parts info_hds
  have HIT := Lib.hid (And.intro hi0 (And.intro hz0 (And.intro hz1 hz2)))
  clear hi0 hz0 hz1 hz2
  have hq := nil_hds
  have H1 := Lib.hid h1
  have HM := Lib.hid hm
  clear h1 hm
  unfold ClonePost
  cases A with
  | none =>
    have h0 : n = 0 := by
      rcases hcs with h | ⟨b, off, e, _⟩
      · exact h
      · exact absurd e (by simp)
    subst h0
    have e0 : xs = [] := List.eq_nil_of_length_eq_zero (by omega)
    subst e0
    go_enter Tryz.func18, Tryz.ntmps18
    go_wp2
    go_ret
    exact ⟨_, rfl, World.ownsRow_nil _ _ _ _, Below.refl _ _⟩
  | some ad =>
    have HC := Lib.hid (show ∀ j u, xs[j]? = some u → (w.alloc (.cells #[] 59)).cell? (ad.add j) = some u by
      intro j u hj
      rcases hcs with h | ⟨b, off, e, hlt, h⟩
      · have e0 : xs = [] := List.eq_nil_of_length_eq_zero (by rw [hl, h])
        subst e0
        simp at hj
      · injection e with e
        subst e
        have := h j u hj
        rw [show (⟨b, off, none⟩ : Addr).add j = ⟨b, off + j, none⟩ from by unfold Addr.add; split <;> simp_all]
        exact Lib.cell?_alloc_some _ this)
    have HL := Lib.hid hl
    clear hcs hl
    go_enter Tryz.func18, Tryz.ntmps18
    go_wp2_with (at_builtin; refine wpList_append_own _ rfl _ _ 26 rfl w.heap.size 59 iT _ 2 16 Tryz.underlying26 HIT.out.1 HIT.out.2.1 HIT.out.2.2.1 HIT.out.2.2.2 rfl (by decide) _ _ _ rfl (World.ownsRow_made w #[] 0 (Nat.le_refl _) (Nat.zero_le _) (by simp)) ad n c xs rfl ?qc1 ?qc2 ?qc3 ?qc4 ?qc5 ?qc6 ?_)
    case qc1 => exact HL.out
    case qc2 => exact HC.out
    case qc3 => exact H1.out
    case qc4 => have := HM.out; unfold maxLen; omega
    case qc5 => have := HM.out; omega
    case qc6 => simp
    intro v' w1 hown hgrow hnil
    go_wp2
    go_ret
    refine ⟨v', rfl, by simpa using hown, ?_⟩
    exact ((Below.refl _ w).alloc (Nat.le_refl _) _).grown hgrow (by simp) (by intro k hk; simp [Value.ownBlock] at hk; omega)
end Go.Proofs.YtojflhkmonicoaaGreat
namespace Go.Proofs.YtojflhkmonicoaaGreat
namespace Fo
open Go.RowKit (wrap32 wrap64)
/-- An operation that a graph can have. -/
structure Good (V : Int) (o : Gr.Op) : Prop where
  kind : 1 ≤ o.kind ∧ o.kind ≤ 7
  dst : 0 ≤ o.dst ∧ o.dst ≤ V
  a : 0 ≤ o.a ∧ o.a ≤ V
  b : 0 ≤ o.b ∧ o.b ≤ V
  imm : -2147483648 ≤ o.imm ∧ o.imm ≤ 2147483647
  a2 : 2 ≤ o.kind ∧ o.kind ≤ 5 → o.a < V
  b3 : o.kind = 3 ∨ o.kind = 5 → o.b < V
  d4 : 1 ≤ o.kind ∧ o.kind ≤ 4 → o.dst < V
theorem inn_of {k n : Int} (h : Gr.inn k n = true) : 0 ≤ k ∧ k < n := by unfold Gr.inn at h; simpa using h
theorem zer_of {k : Int} (h : Gr.zer k = true) : k = 0 := by unfold Gr.zer at h; simpa using h
theorem good_of {V A : Int} (hA : 0 ≤ A ∧ A ≤ 2147483647) {o : Gr.Op} (hV : 0 ≤ V) (h : Gr.opOk V A o = true) : Good V o := by
  obtain ⟨k, d, a, b, i⟩ := o
  unfold Gr.opOk at h
  simp only at h
  split at h
  · rename_i hk
    simp only [Bool.and_eq_true] at h
    have h1 := inn_of h.1.1.1
    have h2 := zer_of h.1.2
    have h3 := zer_of h.2
    have h4 : wrap32 i = i := by have := h.1.1.2; unfold Gr.isW at this; simpa using this
    have h5 := wrap32_bounds i
    exact ⟨by simp only; omega, by simp only; omega, by simp only; omega, by simp only; omega, by simp only; omega, by simp only; omega, by simp only; omega, by simp only; omega⟩
  · split at h
    · rename_i hk
      simp only [Bool.and_eq_true] at h
      have h1 := inn_of h.1.1.1
      have h2 := inn_of h.1.1.2
      have h3 := zer_of h.1.2
      have h4 := zer_of h.2
      exact ⟨by simp only; omega, by simp only; omega, by simp only; omega, by simp only; omega, by simp only; omega, by simp only; omega, by simp only; omega, by simp only; omega⟩
    · split at h
      · rename_i hk
        simp only [Bool.and_eq_true] at h
        have h1 := inn_of h.1.1.1
        have h2 := inn_of h.1.1.2
        have h3 := inn_of h.1.2
        have h4 : 1 ≤ i ∧ i ≤ 14 := by have := h.2; unfold Gr.knw at this; simpa using this
        exact ⟨by simp only; omega, by simp only; omega, by simp only; omega, by simp only; omega, by simp only; omega, by simp only; omega, by simp only; omega, by simp only; omega⟩
      · split at h
        · rename_i hk
          simp only [Bool.and_eq_true] at h
          have h1 := inn_of h.1.1.1
          have h2 := inn_of h.1.1.2
          have h3 := inn_of h.1.2
          have h4 := zer_of h.2
          exact ⟨by simp only; omega, by simp only; omega, by simp only; omega, by simp only; omega, by simp only; omega, by simp only; omega, by simp only; omega, by simp only; omega⟩
        · split at h
          · rename_i hk
            simp only [Bool.and_eq_true] at h
            have h1 := inn_of h.1.1.1
            have h2 := inn_of h.1.1.2
            have h3 := inn_of h.1.2
            have h4 := zer_of h.2
            exact ⟨by simp only; omega, by simp only; omega, by simp only; omega, by simp only; omega, by simp only; omega, by simp only; omega, by simp only; omega, by simp only; omega⟩
          · split at h
            · rename_i hk
              simp only [Bool.and_eq_true] at h
              have h1 := inn_of h.1.1.1
              have h2 := zer_of h.1.1.2
              have h3 := zer_of h.1.2
              have h4 := zer_of h.2
              exact ⟨by simp only; omega, by simp only; omega, by simp only; omega, by simp only; omega, by simp only; omega, by simp only; omega, by simp only; omega, by simp only; omega⟩
            · exact absurd h (by decide)
theorem Good.direct {V : Int} {s : S} {o : Gr.Op} (hs : Ok V s) (h : Good V o) : Good V (direct s o) := by
  obtain ⟨k, d, a, b, i⟩ := o
  have hk := h.kind
  have ha := h.a
  have hb := h.b
  have ha2 := h.a2
  have hb3 := h.b3
  simp only at hk ha hb ha2 hb3
  unfold Fo.direct
  simp only
  split
  · rename_i h3
    have h1 := use_in hs ha.1 (ha2 (by omega))
    have h2 := use_in hs hb.1 (hb3 h3)
    exact ⟨hk, h.dst, by simp only; omega, by simp only; omega, h.imm, fun _ => h1.2, fun _ => h2.2, h.d4⟩
  · split
    · rename_i h3
      have h1 := use_in hs ha.1 (ha2 (by omega))
      exact ⟨hk, h.dst, by simp only; omega, hb, h.imm, fun _ => h1.2, hb3, h.d4⟩
    · exact h
theorem result_in {V : Int} {s : S} {o : Gr.Op} (hs : Ok V s) {n : Int} (h : result s o = some n) : (-2147483648 ≤ n ∧ n ≤ 2147483647) ∧ (o.kind = 2 ∨ o.kind = 3) := by
  unfold result at h
  split at h
  · rename_i h2
    exact ⟨hs.wd _ _ h, .inl h2⟩
  · split at h
    · rename_i h3
      cases h1 : s.wd o.a with
      | none => rw [h1] at h; cases h
      | some x =>
        rw [h1] at h
        cases h2 : s.wd o.b with
        | none => rw [h2] at h; cases h
        | some y =>
          rw [h2] at h
          injection h with h
          subst h
          exact ⟨val_bounds _ _ _, .inr h3⟩
    · cases h
theorem Good.const {V : Int} {s : S} {o : Gr.Op} (hs : Ok V s) (hV : 0 ≤ V) (h : Good V o) : Good V (const s o) := by
  unfold Fo.const
  cases hr : result s o with
  | none => exact h
  | some n =>
    obtain ⟨h1, h2⟩ := result_in hs hr
    have hd := h.dst
    have hd4 := h.d4
    exact ⟨by simp only; omega, hd, by simp only; omega, by simp only; omega, h1, fun h => by simp only at h; omega, fun h => by simp only at h; omega, fun _ => hd4 (by omega)⟩
theorem Good.step {V : Int} {s : S} {o : Gr.Op} (hs : Ok V s) (hV : 0 ≤ V) (h : Good V o) : Good V (step s o) := (h.direct hs).const hs hV
theorem runs_ok {V : Int} (hV : 0 ≤ V) {l : List Gr.Op} (h : ∀ k, k < l.length → Good V (l.getD k Gr.op0)) : ∀ k, k ≤ l.length → Ok V (runs l k)
  | 0, _ => ok0 V
  | k + 1, hk => by
    have ih := runs_ok hV h k (by omega)
    have hg := (h k (by omega)).step ih hV
    exact ih.learn (fun _ => hg.imm) (fun h2 => ⟨hg.a.1, hg.a2 (by omega)⟩)
theorem opAt_good {V : Int} (hV : 0 ≤ V) {l : List Gr.Op} (h : ∀ k, k < l.length → Good V (l.getD k Gr.op0)) {k : Nat} (hk : k < l.length) : Good V (opAt l k) := (h k hk).step (runs_ok hV h k (by omega)) hV
theorem Good.wf {V : Int} (hV : V ≤ 1000) {o : Gr.Op} (h : Good V o) : Wf o.dst ∧ Wf o.a ∧ Wf o.b ∧ Wf o.imm := by
  have := h.dst
  have := h.a
  have := h.b
  have := h.imm
  unfold Wf
  omega
end Fo
end Go.Proofs.YtojflhkmonicoaaGreat
namespace Go.Proofs.YtojflhkmonicoaaGreat
open Go.RowKit Go.Maps
set_option linter.unusedVariables false
set_option linter.unusedSimpArgs false
attribute [local go_sem] y_undef
theorem mapf_new (w : World) : MapF (w.alloc (.map #[] 0)) w.heap.size 0 (fun _ => none) := ⟨_, World.ownsMap_made _ _ _ _, fun z hz => ⟨rfl, rfl⟩⟩
/-- The boxes of fold's block, result and knowledge, its maps, and the row in the making. -/
structure Fs (w : World) (oc : Array Value) (l : List Gr.Op) (n k j : Nat) (u : World) : Prop where
  low : Below w.heap.size w u
  ob : Bk u w.heap.size 40 oc
  rb : Bk u (w.heap.size + 1) 40 #[.slice none 0 0, .int .i64 0, .slice none 0 0]
  kb : Bk u (w.heap.size + 1 + 1 + 1 + 1) 75 #[.map (some (w.heap.size + 1 + 1)), .map (some (w.heap.size + 1 + 1 + 1))]
  kn : Kn u (w.heap.size + 1 + 1) (w.heap.size + 1 + 1 + 1) k (Fo.runs l k)
  row : Bk u (w.heap.size + 1 + 1 + 1 + 1 + 1) 42 (opRow n fun i => if i < j then Fo.opAt l i else Gr.op0)
section
variable {w u u' : World} {oc : Array Value} {l : List Gr.Op} {n k j : Nat}
theorem Fs.below (h : Fs w oc l n k j u) (hb : Below u.heap.size u u') : Fs w oc l n k j u' := ⟨blt h.low hb, h.ob.below hb, h.rb.below hb, h.kb.below hb, h.kn.below hb, h.row.below hb⟩
theorem fs_new (w : World) (oc : Array Value) (l : List Gr.Op) (n : Nat) : Fs w oc l n 0 0 ((((((w.alloc (.cells oc 40)).alloc (.cells #[.slice none 0 0, .int .i64 0, .slice none 0 0] 40)).alloc (.map #[] 0)).alloc (.map #[] 0)).alloc (.cells #[.map (some (w.heap.size + 1 + 1)), .map (some (w.heap.size + 1 + 1 + 1))] 75)).alloc (.cells (opRow n (fun _ => Gr.op0)) 42)) := by
  have B : ∀ (u : World) (o : Obj), Below u.heap.size u (u.alloc o) := fun u o => bla (Below.refl _ _) o
  refine ⟨bla (bla (bla (bla (bla (bla (Below.refl _ _) _) _) _) _) _) _, ?_, ?_, ?_, ⟨?_, ?_⟩, ?_⟩
  · exact ((((((Bk.new w _ _).below (B _ _)).below (B _ _)).below (B _ _)).below (B _ _)).below (B _ _))
  · have h := Bk.new (w.alloc (.cells oc 40)) 40 #[.slice none 0 0, .int .i64 0, .slice none 0 0]
    simp only [size_alloc] at h
    exact ((((h.below (B _ _)).below (B _ _)).below (B _ _)).below (B _ _))
  · have h := Bk.new ((((w.alloc (.cells oc 40)).alloc (.cells #[.slice none 0 0, .int .i64 0, .slice none 0 0] 40)).alloc (.map #[] 0)).alloc (.map #[] 0)) 75 #[.map (some (w.heap.size + 1 + 1)), .map (some (w.heap.size + 1 + 1 + 1))]
    simp only [size_alloc] at h
    exact h.below (B _ _)
  · have h := mapf_new ((w.alloc (.cells oc 40)).alloc (.cells #[.slice none 0 0, .int .i64 0, .slice none 0 0] 40))
    simp only [size_alloc] at h
    exact ((h.below (B _ _)).below (B _ _)).below (B _ _)
  · have h := mapf_new (((w.alloc (.cells oc 40)).alloc (.cells #[.slice none 0 0, .int .i64 0, .slice none 0 0] 40)).alloc (.map #[] 0))
    simp only [size_alloc] at h
    exact (h.below (B _ _)).below (B _ _)
  · have h := Bk.new (((((w.alloc (.cells oc 40)).alloc (.cells #[.slice none 0 0, .int .i64 0, .slice none 0 0] 40)).alloc (.map #[] 0)).alloc (.map #[] 0)).alloc (.cells #[.map (some (w.heap.size + 1 + 1)), .map (some (w.heap.size + 1 + 1 + 1))] 75)) 42 (opRow n (fun _ => Gr.op0))
    simp only [size_alloc] at h
    exact h
theorem far6 (h : Fs w oc l n k j u) (u' : World) (hs : u'.heap.size = u.heap.size) (hos : u'.os = u.os) (ht : u'.tape = u.tape) (hou : u'.output = u.output) (hb : ∀ q, q ≠ w.heap.size + 1 + 1 + 1 + 1 + 1 → u'.heap[q]? = u.heap[q]?) (j' : Nat)
    (hr : Bk u' (w.heap.size + 1 + 1 + 1 + 1 + 1) 42 (opRow n fun i => if i < j' then Fo.opAt l i else Gr.op0)) : Fs w oc l n k j' u' :=
  ⟨⟨hos.trans h.low.os, ht.trans h.low.tape, hou.trans h.low.output, by rw [hs]; exact h.low.size, fun q hq => (hb q (by omega)).trans (h.low.block q hq)⟩, (hb _ (by omega)).trans h.ob, (hb _ (by omega)).trans h.rb, (hb _ (by omega)).trans h.kb, ⟨h.kn.1.kept (hb _ (by omega)), h.kn.2.kept (hb _ (by omega))⟩, hr⟩
theorem Fs.set (h : Fs w oc l n k k u) (hk : k < n) (o : Gr.Op) (hoo : Fo.opAt l k = o) : Fs w oc l n k (k + 1) (((((u.setCell ⟨w.heap.size + 1 + 1 + 1 + 1 + 1, k * 5, none⟩ (.int .i64 o.kind)).setCell ⟨w.heap.size + 1 + 1 + 1 + 1 + 1, k * 5 + 1, none⟩ (.int .i64 o.dst)).setCell ⟨w.heap.size + 1 + 1 + 1 + 1 + 1, k * 5 + 2, none⟩ (.int .i64 o.a)).setCell ⟨w.heap.size + 1 + 1 + 1 + 1 + 1, k * 5 + 3, none⟩ (.int .i64 o.b)).setCell ⟨w.heap.size + 1 + 1 + 1 + 1 + 1, k * 5 + 4, none⟩ (.int .i64 o.imm)) := by
  have hr := ((((h.row.set (k * 5) (.int .i64 o.kind)).set (k * 5 + 1) (.int .i64 o.dst)).set (k * 5 + 2) (.int .i64 o.a)).set (k * 5 + 3) (.int .i64 o.b)).set (k * 5 + 4) (.int .i64 o.imm)
  rw [opRow_set n _ (fun i => if i < k + 1 then Fo.opAt l i else Gr.op0) k o (fun i hi => by
    by_cases e : i = k
    · subst e; simp [hoo]
    · rw [if_neg e]
      by_cases hl : i < k
      · rw [if_pos hl, if_pos (by omega)]
      · rw [if_neg hl, if_neg (by omega)])] at hr
  have hB : Below 0 u _ := (((((Below.refl 0 u).setCell (p := ⟨w.heap.size + 1 + 1 + 1 + 1 + 1, k * 5, none⟩) (Nat.zero_le _) (.int .i64 o.kind)).setCell (p := ⟨w.heap.size + 1 + 1 + 1 + 1 + 1, k * 5 + 1, none⟩) (Nat.zero_le _) (.int .i64 o.dst)).setCell (p := ⟨w.heap.size + 1 + 1 + 1 + 1 + 1, k * 5 + 2, none⟩) (Nat.zero_le _) (.int .i64 o.a)).setCell (p := ⟨w.heap.size + 1 + 1 + 1 + 1 + 1, k * 5 + 3, none⟩) (Nat.zero_le _) (.int .i64 o.b)).setCell (p := ⟨w.heap.size + 1 + 1 + 1 + 1 + 1, k * 5 + 4, none⟩) (Nat.zero_le _) (.int .i64 o.imm)
  refine far6 h _ (by simp) hB.os hB.tape hB.output (fun q hq => ?_) (k + 1) hr
  exact ((((Below.heap_setCell _ _ _ q hq).trans (Below.heap_setCell _ _ _ q hq)).trans (Below.heap_setCell _ _ _ q hq)).trans (Below.heap_setCell _ _ _ q hq)).trans (Below.heap_setCell _ _ _ q hq)
theorem Fs.learn (h : Fs w oc l n k j u) (hm : Mu (w.heap.size + 1 + 1) (w.heap.size + 1 + 1 + 1) u u') (hk : Kn u' (w.heap.size + 1 + 1) (w.heap.size + 1 + 1 + 1) (k + 1) (Fo.runs l (k + 1))) : Fs w oc l n (k + 1) j u' :=
  ⟨h.low.trans (hm.below (by omega) (by omega) h.low.size), hm.bk h.ob (by omega) (by omega), hm.bk h.rb (by omega) (by omega), hm.bk h.kb (by omega) (by omega), hk, hm.bk h.row (by omega) (by omega)⟩
end
theorem Fs.box {w u : World} {oc : Array Value} {l : List Gr.Op} {n k j : Nat} (h : Fs w oc l n k j u) (i : Nat) (x : Value) (oc' : Array Value) (hoc : oc.setIfInBounds i x = oc') : Fs w oc' l n k j (u.setCell ⟨w.heap.size, i, none⟩ x) := by
  subst hoc
  refine ⟨h.low.setCell (Nat.le_refl _) x, h.ob.set i x, h.rb.far (by show w.heap.size + 1 ≠ w.heap.size; omega) x, h.kb.far (by show w.heap.size + 1 + 1 + 1 + 1 ≠ w.heap.size; omega) x, ⟨h.kn.1.kept (Below.heap_setCell _ _ _ _ (by show w.heap.size + 1 + 1 ≠ w.heap.size; omega)), h.kn.2.kept (Below.heap_setCell _ _ _ _ (by show w.heap.size + 1 + 1 + 1 ≠ w.heap.size; omega))⟩, h.row.far (by show w.heap.size + 1 + 1 + 1 + 1 + 1 ≠ w.heap.size; omega) x⟩
theorem ops_in {u : World} {g n : Nat} {f : Nat → Gr.Op} {l : List Gr.Op} (h : Bk u g 42 (opRow n f)) (hl : (List.range n).map f = l) (C : Nat) : OpsIn u (.slice (some ⟨g, 0, none⟩) l.length C) l := by
  subst hl
  refine ⟨_, C, rfl, by rw [flat_length opCells 5 (fun _ => rfl)], .inr ⟨g, 0, rfl, h.lt, fun j y hj => ?_⟩⟩
  rw [Nat.zero_add, h.cell j]
  unfold opRow
  rw [List.getElem?_toArray]
  exact hj
theorem fs_ops {w u : World} {oc : Array Value} {l : List Gr.Op} {n : Nat} (h : Fs w oc l n n n u) (hn : l.length = n) (C : Nat) : OpsIn u (.slice (some ⟨w.heap.size + 1 + 1 + 1 + 1 + 1, 0, none⟩) (Fo.ops l).length C) (Fo.ops l) :=
  ops_in h.row (by
    unfold Fo.ops
    rw [hn]
    apply List.map_congr_left
    intro i hi
    rw [if_pos (List.mem_range.1 hi)]) C
theorem blk_not2 {b : Gr.Blk} (h : b.next.length ≠ 2) : Fo.blk b = ⟨Fo.ops b.ops, b.cond, b.next⟩ := by unfold Fo.blk; simp only [if_neg h]
theorem br_parts {b : Gr.Blk} {n : Nat} (hn : b.ops.length = n) (h2 : b.next.length = 2) {g c : Nat} : ∃ cd off m cp nx, brV (Fo.runs b.ops n) b.cond g 0 c = .tuple #[.int .i64 cd, .slice (some ⟨g, off, none⟩) m cp] ∧ Fo.blk b = ⟨Fo.ops b.ops, cd, nx⟩ ∧ nx.length = m ∧ ∀ u : World, NumsIn u (.slice (some ⟨g, 0, none⟩) 2 c) b.next → NumsIn u (.slice (some ⟨g, off, none⟩) m cp) nx := by
  subst hn
  unfold brV Fo.blk
  simp only [if_pos h2]
  obtain ⟨x, y, e⟩ : ∃ x y, b.next = [x, y] := by
    match hb : b.next, h2 with
    | [x, y], _ => exact ⟨x, y, rfl⟩
  cases hw : (Fo.runs b.ops b.ops.length).wd (Fo.use (Fo.runs b.ops b.ops.length) b.cond) with
  | none => exact ⟨_, 0, 2, c, b.next, rfl, rfl, h2, fun u hu => hu⟩
  | some k =>
    by_cases hk : k = 0
    · simp only [if_pos hk]
      refine ⟨0, 0 + 1, 1, c - 1, _, rfl, rfl, rfl, fun u hu => ?_⟩
      rw [e] at hu ⊢
      obtain ⟨A, c', ev, hl, h0 | ⟨b', off, eA, hlt, hc⟩⟩ := hu
      · exact absurd h0 (by simp)
      · injection ev with e1 e2 e3
        subst e1
        injection eA with eA
        injection eA with e4 e5
        subst e4 e5
        refine ⟨_, _, rfl, rfl, .inr ⟨g, 0 + 1, rfl, hlt, fun j z hj => ?_⟩⟩
        have hj0 : j = 0 := by
          rcases Nat.lt_or_ge j 1 with h | h
          · omega
          · rw [List.getElem?_eq_none (by simpa using h)] at hj; cases hj
        subst hj0
        have := hc 1 (.int .i64 y) rfl
        simp at hj
        subst hj
        simpa using this
    · simp only [if_neg hk]
      refine ⟨0, 0, 1, c, _, rfl, rfl, rfl, fun u hu => ?_⟩
      rw [e] at hu ⊢
      obtain ⟨A, c', ev, hl, h0 | ⟨b', off, eA, hlt, hc⟩⟩ := hu
      · exact absurd h0 (by simp)
      · injection ev with e1 e2 e3
        subst e1
        injection eA with eA
        injection eA with e4 e5
        subst e4 e5
        refine ⟨_, _, rfl, rfl, .inr ⟨g, 0, rfl, hlt, fun j z hj => ?_⟩⟩
        have hj0 : j = 0 := by
          rcases Nat.lt_or_ge j 1 with h | h
          · omega
          · rw [List.getElem?_eq_none (by simpa using h)] at hj; cases hj
        subst hj0
        have := hc 0 (.int .i64 x) rfl
        simp at hj
        subst hj
        simpa using this
end Go.Proofs.YtojflhkmonicoaaGreat

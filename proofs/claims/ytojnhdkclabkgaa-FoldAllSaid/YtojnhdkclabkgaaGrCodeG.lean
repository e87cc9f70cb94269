/- The code of layer 12: points. No condition. -/
import Derived.Test.YtojnhdkclabkgaaGrCodeF
namespace Go.Proofs.Ytojnhdkclabkgaa
open Go.RowKit
set_option linter.unusedVariables false
set_option linter.unusedSimpArgs false
attribute [local go_sem] y_undef
/-- A row of 64 truth values: number i is f i. -/
def boolRow (f : Nat → Bool) : Array Value := ((List.range 64).map fun i => Value.bool (f i)).toArray
theorem boolRow_at (f : Nat → Bool) (i : Nat) (h : i < 64) : (boolRow f)[i]? = some (.bool (f i)) := by simp [boolRow, h]
theorem boolRow_size (f : Nat → Bool) : (boolRow f).size = 64 := by simp [boolRow]
theorem boolRow_set (f f' : Nat → Bool) (i : Nat) (x : Bool) (h : ∀ j, j < 64 → f' j = if j = i then x else f j) : (boolRow f).setIfInBounds i (.bool x) = boolRow f' := by
  apply Array.ext_getElem?
  intro j
  rw [Array.getElem?_setIfInBounds]
  by_cases hj : j < 64
  · rw [boolRow_at f' j hj, boolRow_at f j hj, h j hj]
    by_cases e : i = j
    · subst e; simp [boolRow_size, hj]
    · rw [if_neg e, if_neg (fun e' => e e'.symm)]
  · have h1 : (boolRow f)[j]? = none := Array.getElem?_eq_none (by rw [boolRow_size]; omega)
    have h2 : (boolRow f')[j]? = none := Array.getElem?_eq_none (by rw [boolRow_size]; omega)
    rw [h1, h2, boolRow_size]
    by_cases e : i = j
    · subst e; rw [if_pos rfl, if_neg hj]
    · rw [if_neg e]
theorem boolRow_congr {f f' : Nat → Bool} (h : ∀ j, j < 64 → f' j = f j) : boolRow f' = boolRow f := by
  apply Array.ext_getElem?
  intro j
  by_cases hj : j < 64
  · rw [boolRow_at f' j hj, boolRow_at f j hj, h j hj]
  · rw [Array.getElem?_eq_none (by rw [boolRow_size]; omega), Array.getElem?_eq_none (by rw [boolRow_size]; omega)]
/-- Which of 64 numbers stand among the first k of a list, if they are in range. -/
def seenF (n : Int) (l : List Int) (k j : Nat) : Bool := (List.range k).any fun i => Gr.inn (l.getD i 0) n && decide (l.getD i 0 = (j : Int))
theorem seenF_succ (n : Int) (l : List Int) (k j : Nat) : seenF n l (k + 1) j = (seenF n l k j || (Gr.inn (l.getD k 0) n && decide (l.getD k 0 = (j : Int)))) := by
  unfold seenF
  rw [List.range_succ, List.any_append]
  simp
theorem ptAt_out {n : Int} {l : List Int} {k : Nat} (h : Gr.inn (l.getD k 0) n = false) : Gr.ptAt n l k = false ∧ ∀ j, seenF n l (k + 1) j = seenF n l k j :=
  ⟨by unfold Gr.ptAt; rw [h]; rfl, fun j => by rw [seenF_succ, h]; simp⟩
theorem ptAt_in {n : Int} {l : List Int} {k m : Nat} (h : Gr.inn (l.getD k 0) n = true) (hm : l.getD k 0 = (m : Int)) : Gr.ptAt n l k = !(seenF n l k m) := by
  unfold Gr.ptAt seenF
  rw [h, hm, Bool.true_and, Bool.eq_iff_iff, List.all_eq_true, Bool.not_eq_true', List.any_eq_false]
  constructor
  · intro hh j hj
    have := hh j hj
    intro hc
    rw [Bool.and_eq_true] at hc
    simp only [decide_eq_true_eq] at this hc
    exact this hc.2
  · intro hh j hj
    have := hh j hj
    rw [decide_eq_true_eq]
    intro hc
    apply this
    rw [hc, ← hm, h]
    simp
theorem seen_in {n : Int} {l : List Int} {k m : Nat} (h : Gr.inn (l.getD k 0) n = true) (hm : l.getD k 0 = (m : Int)) (j : Nat) : seenF n l (k + 1) j = if j = m then true else seenF n l k j := by
  rw [seenF_succ, h, hm]
  by_cases e : j = m
  · subst e; simp
  · rw [if_neg e]
    have : decide ((m : Int) = (j : Int)) = false := by simp; omega
    rw [this]
    simp
/-- One number of a point's list. -/
theorem rp11_any (x : Int) (f : Nat → Bool) (G B : Nat) (Ab : Option Addr) (nb cb : Nat) (hnb : nb ≤ 64) (w : World) (hs : Bk w G 120 (boolRow f)) (hg : w.cell? ⟨B, 5, none⟩ = some (.slice Ab nb cb)) :
    Calls Try.prog 85 #[.int .i64 x, .pointer (some ⟨B, 0, none⟩), .pointer (some ⟨G, 0, none⟩)] w fun e w' =>
      if Gr.inn x nb = true then (∃ m : Nat, x = m ∧ m < 64 ∧ e = .returned (.bool (!(f m))) ∧ w' = if f m = true then w else w.setCell ⟨G, m, none⟩ (.bool true)) else e = .returned (.bool false) ∧ w' = w := by
  cases h1 : Gr.inn x nb
  · simp only [Bool.false_eq_true, if_false]
    have H1 := Lib.hid h1
    clear h1
    go_enter Try.func85, Try.ntmps85
    go_wp2_with fail
    refine (gbelow_any x nb _ H1.out _).mono ?_
    rintro e w' ⟨rfl, rfl⟩
    go_wp2
    go_ret
    exact ⟨rfl, rfl⟩
  · simp only [if_true]
    have h2 : 0 ≤ x ∧ x < nb := by
      unfold Gr.inn at h1
      simpa using h1
    obtain ⟨m, rfl⟩ : ∃ m : Nat, x = m := ⟨x.toNat, by omega⟩
    have hm : m < 64 := by omega
    have hc := (hs.cell m).trans (boolRow_at f m hm)
    have hf := hs.frozen m
    have H1 := Lib.hid h1
    have hm' : (m : Int) < 64 := by omega
    have hm0 : (0 : Int) ≤ (m : Int) := by omega
    refine Calls.mono (R := fun e w' => e = .returned (.bool (!(f m))) ∧ w' = if f m = true then w else w.setCell ⟨G, m, none⟩ (.bool true)) ?_ fun e w' h => ⟨m, rfl, hm, h⟩
    clear h1 h2 hs
    cases h3 : f m
    all_goals
      have H3 := Lib.hid h3
      rw [h3] at hc
      clear h3
      go_enter Try.func85, Try.ntmps85
      go_wp2_with fail
      refine (gbelow_any m nb _ H1.out _).mono ?_
      rintro e w' ⟨rfl, rfl⟩
      go_wp2
      go_ret
      exact ⟨rfl, by simp⟩
/-- A point's list. -/
theorem rp1_any (l : List Int) (A : Option Addr) (n c B : Nat) (Ab : Option Addr) (nb cb : Nat) (hnb : nb ≤ 64) (r : Bool) (hr : Gr.ptOk nb l = r) (w : World) (hv : NumsIn w (.slice A n c) l) (hm : n ≤ maxLen) (hg : w.cell? ⟨B, 5, none⟩ = some (.slice Ab nb cb)) :
    Calls Try.prog 83 #[.slice A n c, .pointer (some ⟨B, 0, none⟩)] w fun e w' => e = .returned (.bool r) ∧ Below w.heap.size w w' := by
  obtain ⟨A', c', hA, ho⟩ := hv.opened
  injection hA with hA1 hA2 hA3
  subst hA1 hA3
  have hBs : B < w.heap.size := World.block_lt_of_cell? w _ hg
  have hal : Below w.heap.size w (w.alloc (.cells (boolRow fun _ => false) 120)) := bla (Below.refl _ _) _
  have HC := Lib.hid (everyNm_any 85 #[.pointer (some ⟨B, 0, none⟩), .pointer (some ⟨w.heap.size, 0, none⟩)] ent_rp11 A n c (fun k => l.getD k 0) (w.alloc (.cells (boolRow fun _ => false) 120)) (fun k => Gr.ptAt nb l k)
      (fun k W => Below w.heap.size w W ∧ Bk W w.heap.size 120 (boolRow fun j => seenF nb l k j)) hm ⟨hal, Bk.new _ _ _⟩
    (fun k W hI hk => by
      obtain ⟨bb, off, e, hb, h0⟩ := ho k (by omega)
      exact ⟨bb, off, e, (Below.cell hI.1 (p := ⟨bb, off + k, none⟩) hb).trans h0⟩)
    (fun k W W' hI hb => ⟨blt hI.1 hb, hI.2.below hb⟩)
    (fun k W hI hk => (rp11_any (l.getD k 0) (fun j => seenF nb l k j) w.heap.size B Ab nb cb hnb W hI.2 ((Below.cell hI.1 (p := ⟨B, 5, none⟩) hBs).trans hg)).mono fun e w' h => by
      cases h1 : Gr.inn (l.getD k 0) nb
      · rw [if_neg (by rw [h1]; decide)] at h
        obtain ⟨h2, h3⟩ := ptAt_out h1
        rw [h.2, h2]
        refine ⟨h.1, ⟨hI.1, ?_⟩, Sfe.of_below (Below.refl _ _)⟩
        rw [boolRow_congr (f := fun j => seenF nb l k j) fun j _ => h3 j]
        exact hI.2
      · rw [if_pos h1] at h
        obtain ⟨m, hm, hm64, he, hw⟩ := h
        rw [ptAt_in h1 hm]
        cases h4 : seenF nb l k m
        · rw [h4] at he hw
          rw [hw]
          refine ⟨he, ⟨hI.1.setCell (Nat.le_refl _) _, ?_⟩, (Sfe.of_below (Below.refl _ _)).set (by simp) _⟩
          have := hI.2.set m (.bool true)
          rw [boolRow_set _ (fun j => seenF nb l (k + 1) j) m true fun j _ => seen_in h1 hm j] at this
          exact this
        · rw [h4] at he hw
          rw [hw]
          refine ⟨he, ⟨hI.1, ?_⟩, Sfe.of_below (Below.refl _ _)⟩
          rw [if_pos rfl, boolRow_congr (f := fun j => seenF nb l k j) fun j _ => by
            rw [seen_in h1 hm]
            by_cases e : j = m
            · subst e; rw [if_pos rfl, h4]
            · rw [if_neg e]]
          exact hI.2) r (by rw [← hr]; unfold Gr.ptOk; rw [← hA2]))
  clear hv ho hA2 hr hal hg
  go_enter Try.func83, Try.ntmps83
  go_wp2_with fail
  refine HC.out.mono ?_
  rintro e w' ⟨rfl, k, hb⟩
  go_wp2
  go_ret
  exact ⟨rfl, hb.1⟩
set_option maxHeartbeats 4000000 in
theorem rpoints_any (Ai Aa Ab Ap Ah : Option Addr) (ni ci na ca nb cb np cp nh ch : Nat) (V K S : Int) (hnb : nb ≤ 64) (l : List (List Int)) (r : Bool) (hr : Gr.ptsOk nb l = r) (w : World) (hv : LstsIn w (.slice Ap np cp) l) (hm : np ≤ maxLen) (hm2 : ∀ q ∈ l, q.length ≤ maxLen) :
    Calls Try.prog 40 #[.agg #[.slice Ai ni ci, .int .i64 V, .int .i64 K, .slice Aa na ca, .int .i64 S, .slice Ab nb cb, .slice Ap np cp, .slice Ah nh ch]] w fun e w' => e = .returned (.bool r) ∧ Below w.heap.size w w' := by
  obtain ⟨A, c, a1, c1, hA, ho⟩ := hv.opened
  injection hA with hA1 hA2 hA3
  subst hA1 hA3
  have HB := Lib.hid (bla (Below.refl w.heap.size w) (.cells #[.slice Ai ni ci, .int .i64 V, .int .i64 K, .slice Aa na ca, .int .i64 S, .slice Ab nb cb, .slice Ap np cp, .slice Ah nh ch] 40))
  have HG := Bk.new w 40 #[.slice Ai ni ci, .int .i64 V, .int .i64 K, .slice Aa na ca, .int .i64 S, .slice Ab nb cb, .slice Ap np cp, .slice Ah nh ch]
  have HC := Lib.hid fun (q : Bool) (hq : Gr.ptsOk nb l = q) =>
    everyLs_any 83 #[.pointer (some ⟨w.heap.size, 0, none⟩)] ent_rp1 Ap np cp a1 (fun k => (l.getD k []).length) c1 (w.alloc (.cells #[.slice Ai ni ci, .int .i64 V, .int .i64 K, .slice Aa na ca, .int .i64 S, .slice Ab nb cb, .slice Ap np cp, .slice Ah nh ch] 40)) (fun k => Gr.ptOk nb (l.getD k [])) (fun _ W => Below (w.alloc (.cells #[.slice Ai ni ci, .int .i64 V, .int .i64 K, .slice Aa na ca, .int .i64 S, .slice Ab nb cb, .slice Ap np cp, .slice Ah nh ch] 40)).heap.size (w.alloc (.cells #[.slice Ai ni ci, .int .i64 V, .int .i64 K, .slice Aa na ca, .int .i64 S, .slice Ab nb cb, .slice Ap np cp, .slice Ah nh ch] 40)) W) hm (Below.refl _ _)
    (fun k W hI hk => by
      obtain ⟨bb, off, e, hb, h0, h1⟩ := ho k (by omega)
      exact ⟨bb, off, e, (Below.cell (blt HB.out hI) (p := ⟨bb, off + k, none⟩) hb).trans h0⟩)
    (fun k W W' hI hb => blt hI hb)
    (fun k W hI hk => by
      obtain ⟨bb, off, e, hb, h0, h1⟩ := ho k (by omega)
      exact (rp1_any (l.getD k []) (a1 k) _ (c1 k) w.heap.size Ab nb cb hnb _ rfl W (h1.below (blt HB.out hI)) (hm2 _ (mem_getD (by omega))) ((HG.below hI).cell 5)).mono fun e w' h => ⟨h.1, blt hI h.2, Sfe.of_below h.2⟩) q (by rw [← hq]; unfold Gr.ptsOk; rw [← hA2])
  clear hv ho hA2 hm2 HG
  cases h1 : Gr.ptsOk nb l
  all_goals
    have H1 := Lib.hid h1
    rw [h1] at hr
    subst hr
    clear h1
    go_enter Try.func40, Try.ntmps40
    go_wp2_with fail
    refine (HC.out _ H1.out).mono ?_
    rintro e w' ⟨rfl, k, hb⟩
    go_wp2
    go_ret
    exact ⟨rfl, blt HB.out hb⟩
end Go.Proofs.Ytojnhdkclabkgaa
